import Derived.Test.YtnochfnmkenemaaProg
import Derived.Test.YtnochfnmkenemaaYa
import Derived.Test.YtnochfnmkenemaaYb
import Derived.Test.YtnochfnmkenemaaOb
import Derived.RangeFuncNested
import Derived.Shelf.RegionOpen
import Derived.OwnWalkIn
import Derived.TacticsInMore
import Derived.Test.YtnochfnmkenemaaOc
import Derived.Test.YtnochfnmkenemaaJp
import Derived.Test.YtnochfnmkenemaaMa
import Derived.Test.YtnochfnmkenemaaJq
namespace Go.Proofs.Ytnochfnmkenemaa
open Go Go.RowKit Go.Shelf
attribute [local go_sem] World.cell?_alloc_some cell?_alloc2_some cell?_alloc3_some cell?_alloc4_some frozen?_alloc_some frozen?_alloc2_some frozen?_alloc3_some World.cell?_setCell_far new_ne0 new_ne1 new_ne2 new_ne3 lt2 lt3 lt4 lt5 lt6 lt7 lt8 lt9
attribute [local go_sem] Oper.semAt_some

theorem sieve_zero : Try.zeroCells98 = Array.replicate 1415 (.bool false) := by kernel_rfl
/-- A block of 1415 flags. -/
def Arr (W : World) (X : Nat) (f : Nat → Bool) : Prop := ∃ cs t, W.heap[X]? = some (.cells cs t (0, 0)) ∧ cs.size = 1415 ∧ ∀ i, i ≤ 1414 → cs[i]? = some (.bool (f i))
theorem Arr.cell {W : World} {X : Nat} {f : Nat → Bool} (h : Arr W X f) {i : Nat} (hi : i ≤ 1414) : W.cell? ⟨X, i, none⟩ = some (.bool (f i)) := by
  obtain ⟨cs, t, hb, -, hc⟩ := h
  rw [cell_of_row W X i cs t (0, 0) hb]; exact hc i hi
theorem Arr.frozen {W : World} {X : Nat} {f : Nat → Bool} (h : Arr W X f) (i : Nat) : W.frozen? ⟨X, i, none⟩ = false := by
  obtain ⟨cs, t, hb, -, hc⟩ := h
  exact frozen_of_row W X i cs t hb
theorem Arr.set {W : World} {X : Nat} {f : Nat → Bool} (h : Arr W X f) (m : Nat) (hm : m ≤ 1414) : Arr (W.setCell ⟨X, m, none⟩ (.bool true)) X (fun i => if i = m then true else f i) := by
  obtain ⟨cs, t, hb, hs, hc⟩ := h
  refine ⟨cs.setIfInBounds m (.bool true), t, heap_setCell_same W X m cs t _ hb, by simpa using hs, fun i hi => ?_⟩
  by_cases e : i = m
  · subst e; rw [Array.getElem?_setIfInBounds_self_of_lt (by omega)]; simp
  · rw [Array.getElem?_setIfInBounds_ne (by omega)]
    simp only [if_neg e]; exact hc i hi
theorem Arr.keep {K : Nat → Prop} {V W : World} {X : Nat} {f : Nat → Bool} (h : Arr V X f) (k : Keep K V W) (hX : K X) : Arr W X f := by
  obtain ⟨cs, t, hb, hs, hc⟩ := h
  exact ⟨cs, t, k.heap hX hb, hs, hc⟩
theorem Arr.lt {W : World} {X : Nat} {f : Nat → Bool} (h : Arr W X f) : X < W.heap.size := by
  obtain ⟨cs, t, hb, -⟩ := h
  exact (Array.getElem?_eq_some_iff.1 hb).1
theorem Arr.born (w : World) : Arr (w.alloc (.cells Try.zeroCells98 98)) w.heap.size (fun _ => false) := by
  refine ⟨_, _, heap_alloc_new w _, by rw [sieve_zero, Array.size_replicate], fun i hi => ?_⟩
  rw [sieve_zero, Array.getElem?_replicate, if_pos (by omega)]

/-- What holds between two rounds of the sieve. -/
def Sv (W : World) (J : Nat → (Nat → Prop) → World → Prop) (xs : List (Array Value)) (X : Nat) (v : Value) (wr : World) : Prop :=
  ∃ (i k p : Nat) (S : Nat → Prop) (f : Nat → Bool), v = .int .i64 (p : Int) ∧ 2 ≤ p ∧ p + k = 1415 ∧ i ≤ xs.length ∧ xs.drop i = prsFrom k p ∧ J i S wr ∧ Arr wr X f ∧ SvAt p f ∧ (∀ b, S b → W.heap.size ≤ b ∧ b < wr.heap.size) ∧ ¬ S X ∧ W.heap.size ≤ X ∧ W.heap.size ≤ wr.heap.size
/-- While multiples are crossed out. -/
def Sm (W : World) (J : Nat → (Nat → Prop) → World → Prop) (i p X : Nat) (S : Nat → Prop) (v : Value) (wr : World) : Prop :=
  ∃ (m : Nat) (f : Nat → Bool), v = .int .i64 (m : Int) ∧ p * p ≤ m ∧ (m : Int) % p = 0 ∧ J i S wr ∧ Arr wr X f ∧ SvIn p m f ∧ (∀ b, S b → W.heap.size ≤ b ∧ b < wr.heap.size) ∧ W.heap.size ≤ wr.heap.size

set_option maxHeartbeats 4000000 in
theorem wholePrimes_gives (w : World) : IterG Try.prog 94 #[] (prsFrom 1413 2) (fun _ => False) w := by
  intro l J Jx W _ hJ hJx hY h0
  obtain ⟨xs, hxs⟩ : ∃ xs, prsFrom 1413 2 = xs := ⟨_, rfl⟩
  rw [hxs] at hY ⊢
  refine callsIn_of_wp Try.func94 rfl trivial ?_ rfl
  simp only [Try.ntmps94, List.size_toArray, List.length_cons, List.length_nil, Nat.reduceAdd, Nat.reduceSub, Array.replicate_succ, Array.replicate_zero, List.push_toArray, List.append_toArray, List.nil_append, List.cons_append]
  refine wpIn_wide.2 ?_
  go_wp2_with fail
  go_loopw [3] (fun v wr => Sv W J xs W.heap.size v wr) (fun v _ => 1415 - (intOf v).toNat)
  case atStart =>
    refine ⟨0, 1413, 2, fun _ => False, fun _ => false, rfl, by omega, by omega, Nat.zero_le _, by rw [List.drop_zero, show ((2 : Nat) : Int) = 2 from rfl, hxs], hJ _ _ _ _ h0 (Keep.of_below _ (by (repeat' (first | (with_reducible exact Below.refl _ _) | (with_reducible refine Below.alloc ?_ ?_ _) | (with_reducible refine Below.drew ?_) | (with_reducible refine Below.setCell ?_ ?_ _) | (with_reducible refine Below.trans ?_ (Below.mono (by assumption) ?_)) | go_size)))), ?_, SvAt.start, fun _ h => h.elim, fun h => h, Nat.le_refl _, by simp⟩
    exact Arr.born W
  case round =>
    obtain ⟨i, k, p, S, f, rfl, h2, hk, hil, hxs', hJr, hA, hf, hS, hSX, hX, hs⟩ := hrel
    cases k with
    | zero =>
      have hlt : decide ((p : Int) ≤ 1414) = false := decide_eq_false (by omega)
      have hi := drop_end hil hxs'
      go_wp2_with fail
      go_end0
      exact ⟨⟨_, rfl⟩, hs, .inl ⟨S, hi ▸ hJr⟩⟩
    | succ k =>
      have hlt : decide ((p : Int) ≤ 1414) = true := decide_eq_true (by omega)
      have hcell := hA.cell (i := p) (by omega)
      have hself := hf.self h2 (by omega)
      cases hw : wpB (p : Int)
      · rw [hw] at hself
        rw [hself] at hcell
        go_wp2_with fail
        go_roundw
        case rel => exact ⟨i, k, p + 1, S, f, by simp, by omega, by omega, hil, by rw [hxs', prs_miss hw]; rfl, hJr, hA, hf.miss (fun h => by rw [wpB_iff.2 h] at hw; cases hw), hS, hSX, hX, hs⟩
        case measure => simp [intOf]; omega
      · rw [hw] at hself
        rw [hself] at hcell
        rw [prs_hit hw] at hxs'
        obtain ⟨hx, hxs2⟩ := drop_cons hxs'
        have hl1 : i + 1 ≤ xs.length := by have := (List.getElem?_eq_some_iff.1 hx).1; omega
        have hp := wpB_iff.1 hw
        obtain ⟨fn, tmps, assign, body, hy, hR⟩ := hY i S _ wr hx hJr hs hS
        go_upto_region 5 with fail
        refine (wpIn_wide (n := 8)).1 ?_
        gi_wp2
        refine hR.mono ?_
        rintro e W3 ⟨c, S', rfl, hc, hS', hk3⟩
        have hX3 : Arr W3 W.heap.size f := hA.keep hk3 ⟨hSX, .inr (Nat.le_refl _)⟩
        have hs3 := hk3.size
        cases c
        · gi_wp2
          go_wp2_with fail
          go_returns
          exact ⟨⟨_, rfl⟩, by omega, .inr ⟨i, S', hc⟩⟩
        · have hSX' : ¬ S' W.heap.size := fun h => by
            rcases (hS' _ h).1 with h | h
            · exact hSX h
            · have := hA.lt; omega
          have hS2 : ∀ b, S' b → W.heap.size ≤ b ∧ b < W3.heap.size := fun b hb => by
            refine ⟨?_, (hS' b hb).2⟩
            rcases (hS' b hb).1 with h | h
            · exact (hS b h).1
            · omega
          have hsW : W.heap.size ≤ W3.heap.size := by omega
          have hpp : ((p * p : Nat) : Int) = (p : Int) * p := by simp
          have hp2 : p * p ≤ 1999396 := Nat.mul_le_mul (show p ≤ 1414 by omega) (show p ≤ 1414 by omega)
          obtain ⟨M, hM⟩ : ∃ M, p * p = M := ⟨_, rfl⟩
          have hMi : (p : Int) * p = M := by rw [← hM, hpp]
          have hMm : (M : Int) % p = 0 := by rw [← hMi]; exact Int.mul_emod_left _ _
          have hfi : SvIn p M f := by rw [← hMi]; exact hf.into
          clear hR hy hcell hself hpp hA hJr hS' hk3 hx
          gi_wp2
          go_wp2_with fail
          go_loopw [4] (fun v wr => Sm W J (i + 1) p W.heap.size S' v wr) (fun v _ => 3000 - (intOf v).toNat)
          case atStart => exact ⟨M, f, rfl, by omega, hMm, hc, hX3, hfi, hS2, hsW⟩
          case round =>
            clear hc hX3 hfi hs3 hS2
            obtain ⟨m, f', rfl, hpm, hmm, hJr, hA, hf', hS2, hs2⟩ := hrel
            by_cases hm : m ≤ 1414
            · have hlt : decide ((m : Int) ≤ 1414) = true := decide_eq_true (by omega)
              have hcell := hA.cell hm
              have hfz := hA.frozen m
              go_wp2_with fail
              go_roundw
              case rel =>
                refine ⟨m + p, _, by simp, by omega, ?_, hJ _ _ _ _ hJr (Keep.setCell (Keep.refl _ _) ?_ _), hA.set m hm, by rw [Int.natCast_add]; exact hf'.step (by omega) (by omega) hmm, fun b hb => by simpa using hS2 b hb, by simpa using hs2⟩
                · rw [Int.natCast_add, Int.add_emod_right]; exact hmm
                · rintro (h | h)
                  · simp at h
                  · exact hSX' h
              case measure => simp [intOf]; omega
            · have hlt : decide ((m : Int) ≤ 1414) = false := decide_eq_false (by omega)
              go_wp2_with fail
              go_roundw
              case rel => exact ⟨i + 1, k, p + 1, S', f', by simp, by omega, by omega, hl1, hxs2, hJr, hA, hf'.out hp (by omega), hS2, hSX', hX, hs2⟩
              case measure => simp [intOf]; omega
end Go.Proofs.Ytnochfnmkenemaa

namespace Go.Proofs.Ytnochfnmkenemaa
open Go Go.RowKit Go.Shelf
attribute [local go_sem] World.cell?_alloc_some cell?_alloc2_some cell?_alloc3_some cell?_alloc4_some frozen?_alloc_some frozen?_alloc2_some frozen?_alloc3_some World.cell?_setCell_far new_ne0 new_ne1 new_ne2 new_ne3 lt2 lt3 lt4 lt5 lt6 lt7 lt8 lt9
attribute [local go_sem] Oper.semAt_some

theorem iWholePrimes (w : World) : Calls Try.prog 85 #[] w fun e w' => e = .returned (.func (.func 94) #[] #[]) ∧ Below w.heap.size w w' := by
  go_enter Try.func85, Try.ntmps85
  go_wp2_with fail
  go_returns
  exact ⟨rfl, by (repeat' (first | (with_reducible exact Below.refl _ _) | (with_reducible refine Below.alloc ?_ ?_ _) | (with_reducible refine Below.drew ?_) | (with_reducible refine Below.setCell ?_ ?_ _) | (with_reducible refine Below.trans ?_ (Below.mono (by assumption) ?_)) | go_size))⟩

/-- Between two rounds of wholePrimeOk: no prime so far divides n. -/
def Wi (n₀ : World) (xs : List (Array Value)) (n : Int) (i : Nat) (_ : Nat → Prop) (W : World) : Prop := ∃ (k : Nat) (p : Int) (r : Value), xs.drop i = prsFrom k p ∧ p + k = 1415 ∧ NoSmall n p ∧ W.cell? ⟨n₀.heap.size, 0, none⟩ = some (.int .i64 n) ∧ W.cell? ⟨n₀.heap.size + 1, 0, none⟩ = some r ∧ W.frozen? ⟨n₀.heap.size + 1, 0, none⟩ = false ∧ Below n₀.heap.size n₀ W
/-- How its loop stops: by a divisor, or by a prime that is great enough. -/
def Wx (n₀ : World) (n : Int) (c : Code) (_ : Nat → Prop) (W : World) : Prop := Below n₀.heap.size n₀ W ∧ match c with
  | .ret => wpB n = false ∧ W.cell? ⟨n₀.heap.size + 1, 0, none⟩ = some (.bool false)
  | .exit id => id = 0 ∧ wpB n = true ∧ ∃ r, W.cell? ⟨n₀.heap.size + 1, 0, none⟩ = some r ∧ W.frozen? ⟨n₀.heap.size + 1, 0, none⟩ = false
  | _ => False

set_option maxHeartbeats 4000000 in
theorem iWholePrimeOk (n : Int) (w : World) (hn : n ≤ 2000000) : Calls Try.prog 55 #[.int .i64 n] w fun e w' => e = .returned (.bool (wpB n)) ∧ Below w.heap.size w w' := by
  by_cases h2 : n < 2
  · have e : wpB n = false := by cases h : wpB n; rfl; have := (wpB_iff.1 h).1; omega
    rw [e]
    go_enter Try.func55, Try.ntmps55
    go_wp2_with fail
    refine bodyPost_ret (v := .bool false) (by simp [results, Try.results55, go_sem, *]) rfl ?_; exact ⟨rfl, by (repeat' (first | (with_reducible exact Below.refl _ _) | (with_reducible refine Below.alloc ?_ ?_ _) | (with_reducible refine Below.drew ?_) | (with_reducible refine Below.setCell ?_ ?_ _) | (with_reducible refine Below.trans ?_ (Below.mono (by assumption) ?_)) | go_size))⟩
  have h2' : 2 ≤ n := by omega
  obtain ⟨xs, hxs⟩ : ∃ xs, prsFrom 1413 2 = xs := ⟨_, rfl⟩
  refine (callsIn_wide (n := 9)).1 ?_
  refine callsIn_of_wp_marks Try.func55 rfl trivial ?_ rfl
  simp only [Try.ntmps55, List.size_toArray, List.length_cons, List.length_nil, Nat.reduceAdd, Nat.reduceSub, Array.replicate_succ, Array.replicate_zero, List.push_toArray, List.append_toArray, List.nil_append, List.cons_append]
  refine wpIn_wide.2 ?_
  go_wp2_with fail
  (refine (iWholePrimes _).mono ?_; rintro e w1 ⟨rfl, hb1⟩; have hz1 := hb1.size; (repeat (first | rw [World.size_alloc] at hz1 | rw [World.size_setCell] at hz1 | rw [World.size_drew] at hz1)); have kk1 := keep hb1 (a := ⟨w.heap.size, 0, none⟩) (v := _) (by (repeat (first | (with_reducible assumption) | (with_reducible apply sameS) | ((with_reducible apply born); (focus (simp; done)); (focus rfl)) | (with_reducible apply keepA) | (with_reducible apply keepD) | ((with_reducible apply keepS); focus ((repeat (first | rw [World.size_alloc] | rw [World.size_setCell] | rw [World.size_drew])); omega)) | ((with_reducible apply keep); (focus (with_reducible assumption)))))); have fkk1 := keepF hb1 (a := ⟨w.heap.size, 0, none⟩) (v := _) (by (repeat (first | (with_reducible assumption) | (with_reducible apply sameS) | ((with_reducible apply born); (focus (simp; done)); (focus rfl)) | (with_reducible apply keepA) | (with_reducible apply keepD) | ((with_reducible apply keepS); focus ((repeat (first | rw [World.size_alloc] | rw [World.size_setCell] | rw [World.size_drew])); omega)) | ((with_reducible apply keep); (focus (with_reducible assumption)))))) (by (repeat (first | (with_reducible assumption) | ((with_reducible apply bornF); (focus (simp; done))) | (with_reducible apply keepFS) | (with_reducible apply keepFD) | ((with_reducible apply keepFA); (focus (repeat (first | (with_reducible assumption) | (with_reducible apply sameS) | ((with_reducible apply born); (focus (simp; done)); (focus rfl)) | (with_reducible apply keepA) | (with_reducible apply keepD) | ((with_reducible apply keepS); focus ((repeat (first | rw [World.size_alloc] | rw [World.size_setCell] | rw [World.size_drew])); omega)) | ((with_reducible apply keep); (focus (with_reducible assumption)))))))))); have kk2 := keep hb1 (a := ⟨w.heap.size + 1, 0, none⟩) (v := _) (by (repeat (first | (with_reducible assumption) | (with_reducible apply sameS) | ((with_reducible apply born); (focus (simp; done)); (focus rfl)) | (with_reducible apply keepA) | (with_reducible apply keepD) | ((with_reducible apply keepS); focus ((repeat (first | rw [World.size_alloc] | rw [World.size_setCell] | rw [World.size_drew])); omega)) | ((with_reducible apply keep); (focus (with_reducible assumption)))))); have fkk2 := keepF hb1 (a := ⟨w.heap.size + 1, 0, none⟩) (v := _) (by (repeat (first | (with_reducible assumption) | (with_reducible apply sameS) | ((with_reducible apply born); (focus (simp; done)); (focus rfl)) | (with_reducible apply keepA) | (with_reducible apply keepD) | ((with_reducible apply keepS); focus ((repeat (first | rw [World.size_alloc] | rw [World.size_setCell] | rw [World.size_drew])); omega)) | ((with_reducible apply keep); (focus (with_reducible assumption)))))) (by (repeat (first | (with_reducible assumption) | ((with_reducible apply bornF); (focus (simp; done))) | (with_reducible apply keepFS) | (with_reducible apply keepFD) | ((with_reducible apply keepFA); (focus (repeat (first | (with_reducible assumption) | (with_reducible apply sameS) | ((with_reducible apply born); (focus (simp; done)); (focus rfl)) | (with_reducible apply keepA) | (with_reducible apply keepD) | ((with_reducible apply keepS); focus ((repeat (first | rw [World.size_alloc] | rw [World.size_setCell] | rw [World.size_drew])); omega)) | ((with_reducible apply keep); (focus (with_reducible assumption)))))))))))
  go_wp2_with fail
  refine (wpIn_wide (n := 9)).1 ?_
  have G := wholePrimes_gives w1
  have hps : ∀ x ∈ prsFrom 1413 2, x.size = 1 := prsFrom_one _ _
  rw [hxs] at G hps
  have HX := Lib.hid hxs
  clear hxs
  refine wp_rangeG (xs := xs) rfl (enters_of Try.func94 (by kernel_rfl) rfl) G (fun _ h => h.elim) (Keep.refl _ _) hps
    (Wi w xs n) (Wx w n) ?hI ?hIx ?h0 ?round ?done ?stop
  case hI =>
    rintro i S A B ⟨k, p, r, hd, hpk, hns, c0, c1, f1, hb⟩ hAB
    exact ⟨k, p, r, hd, hpk, hns, hAB.cell (.inl (by dsimp only; omega)) c0, hAB.cell (.inl (by dsimp only; omega)) c1, hAB.frozen (.inl (by dsimp only; omega)) c1 f1, hb.trans (hAB.below (fun b hb => .inl (by omega)) hb.size)⟩
  case hIx =>
    rintro c S A B ⟨hb, hc⟩ hAB
    refine ⟨hb.trans (hAB.below (fun b hb => .inl (by omega)) hb.size), ?_⟩
    cases c with
    | ret => exact ⟨hc.1, hAB.cell (.inl (by dsimp only; omega)) hc.2⟩
    | exit id =>
      obtain ⟨h0, h1, r, c1, f1⟩ := hc
      exact ⟨h0, h1, r, hAB.cell (.inl (by dsimp only; omega)) c1, hAB.frozen (.inl (by dsimp only; omega)) c1 f1⟩
    | _ => exact hc.elim
  case h0 => exact ⟨1413, 2, .bool false, by rw [List.drop_zero]; exact HX.out.symm, by omega, NoSmall.start n, by (repeat (first | (with_reducible assumption) | (with_reducible apply sameS) | ((with_reducible apply born); (focus (simp; done)); (focus rfl)) | (with_reducible apply keepA) | (with_reducible apply keepD) | ((with_reducible apply keepS); focus ((repeat (first | rw [World.size_alloc] | rw [World.size_setCell] | rw [World.size_drew])); omega)) | ((with_reducible apply keep); (focus (with_reducible assumption))))), by (repeat (first | (with_reducible assumption) | (with_reducible apply sameS) | ((with_reducible apply born); (focus (simp; done)); (focus rfl)) | (with_reducible apply keepA) | (with_reducible apply keepD) | ((with_reducible apply keepS); focus ((repeat (first | rw [World.size_alloc] | rw [World.size_setCell] | rw [World.size_drew])); omega)) | ((with_reducible apply keep); (focus (with_reducible assumption))))), by (repeat (first | (with_reducible assumption) | ((with_reducible apply bornF); (focus (simp; done))) | (with_reducible apply keepFS) | (with_reducible apply keepFD) | ((with_reducible apply keepFA); (focus (repeat (first | (with_reducible assumption) | (with_reducible apply sameS) | ((with_reducible apply born); (focus (simp; done)); (focus rfl)) | (with_reducible apply keepA) | (with_reducible apply keepD) | ((with_reducible apply keepS); focus ((repeat (first | rw [World.size_alloc] | rw [World.size_setCell] | rw [World.size_drew])); omega)) | ((with_reducible apply keep); (focus (with_reducible assumption))))))))), by (repeat' (first | (with_reducible exact Below.refl _ _) | (with_reducible refine Below.alloc ?_ ?_ _) | (with_reducible refine Below.drew ?_) | (with_reducible refine Below.setCell ?_ ?_ _) | (with_reducible refine Below.trans ?_ (Below.mono (by assumption) ?_)) | go_size))⟩
  case round =>
    rintro l i S row W hr ⟨k, p, r, hd, hpk, hns, c0, c1, f1, hb⟩ hs hS
    have hd' := cons_drop hr
    rw [hd] at hd'
    obtain ⟨q, j, rfl, hq, hpq, hqj, hno, ht⟩ := prs_head k p hd'
    gi_wp2
    refine ⟨Keep.refl _ _, ?_⟩
    intro W2 hs2 hk2
    have c0' := hk2.cell (p := ⟨w.heap.size, 0, none⟩) (.inl (by dsimp only; omega)) c0
    have c1' := hk2.cell (p := ⟨w.heap.size + 1, 0, none⟩) (.inl (by dsimp only; omega)) c1
    have f1' := hk2.frozen (p := ⟨w.heap.size + 1, 0, none⟩) (.inl (by dsimp only; omega)) c1 f1
    have hb' : Below w.heap.size w W2 := hb.trans (hk2.below (fun b hb => .inl (by omega)) hb.size)
    have hq2 := hq.1
    have hqq := Int.mul_le_mul (a := q) (b := q) (c := 1414) (d := 1414) (by omega) (by omega) (by omega) (by omega)
    have hqq0 := Int.mul_le_mul (a := 2) (b := 2) (c := q) (d := q) hq2 hq2 (by omega) (by omega)
    clear c0 c1 f1 hd hd' hr
    by_cases hgt : n < q * q
    · have hd1 : decide (n < q * q) = true := decide_eq_true hgt
      have hw := hns.wp h2' hno hgt (by omega)
      gi_wp2
      exact ⟨S, fun b hb => ⟨.inl hb, by have := (hS b hb).2; omega⟩, Keep.refl _ _, hb', rfl, hw, r, c1', f1'⟩
    · have hd1 : decide (n < q * q) = false := decide_eq_false hgt
      have hq0 : (q == 0) = false := by simp; omega
      have hte : n.tmod q = n % q := Int.tmod_eq_emod_of_nonneg (by omega)
      obtain ⟨x, hx⟩ : ∃ x, n.tmod q = x := ⟨_, rfl⟩
      have hxb : -2000000 ≤ x ∧ x ≤ 2000000 := by
        rw [← hx, hte]
        have := Int.emod_nonneg n (show q ≠ 0 by omega)
        have := Int.emod_lt_of_pos n (show 0 < q by omega)
        omega
      obtain ⟨hx1, hx2⟩ := hxb
      by_cases hm : n % q = 0
      · have hx0 : (x == 0) = true := by rw [beq_iff_eq]; omega
        have hw := not_wpB (n := n) hq2 (by omega) hm
        gi_wp2
        refine ⟨S, fun b hb => ⟨.inl hb, ?_⟩, Keep.setCell (Keep.refl _ _) ?_ _, hb'.setCell (by dsimp only; omega) _, hw, by (repeat (first | (with_reducible assumption) | (with_reducible apply sameS) | ((with_reducible apply born); (focus (simp; done)); (focus rfl)) | (with_reducible apply keepA) | (with_reducible apply keepD) | ((with_reducible apply keepS); focus ((repeat (first | rw [World.size_alloc] | rw [World.size_setCell] | rw [World.size_drew])); omega)) | ((with_reducible apply keep); (focus (with_reducible assumption)))))⟩
        · have := (hS b hb).2
          first | omega | (simp; omega)
        · rintro ⟨-, h, -⟩
          revert h
          simp
          omega
      · have hx0 : (x == 0) = false := by simp; omega
        have hns' := hns.next hno hm
        gi_wp2
        exact ⟨S, fun b hb => ⟨.inl hb, by have := (hS b hb).2; omega⟩, Keep.refl _ _, j, q + 1, r, ht, by omega, hns', c0', c1', f1', hb'⟩
  case done =>
    rintro D S W hD ⟨k, p, r, hd, hpk, hns, c0, c1, f1, hb⟩ hSD hK
    rw [List.drop_length] at hd
    have hno := prs_nil k p hd.symm
    have hw : wpB n = true := hns.wp (q := 1415) h2' (fun r hr hlt => hno r hr (by omega)) (by omega) (by omega)
    have HK := Lib.hid hK
    clear hK
    go_wp2_with fail
    refine mark_back (.bool true) ?_ ?_ ?_
    · exact heap_cells HK.out (by dsimp only; omega)
    · intro W' hW'
      have q0 : W'.cell? ⟨w.heap.size + 1, 0, none⟩ = some (.bool true) := (World.cell?_of_block (a := ⟨w.heap.size + 1, 0, none⟩) (hW' _ (by dsimp only; omega))).trans (by (repeat (first | (with_reducible assumption) | (with_reducible apply sameS) | ((with_reducible apply born); (focus (simp; done)); (focus rfl)) | (with_reducible apply keepA) | (with_reducible apply keepD) | ((with_reducible apply keepS); focus ((repeat (first | rw [World.size_alloc] | rw [World.size_setCell] | rw [World.size_drew])); omega)) | ((with_reducible apply keep); (focus (with_reducible assumption))))))
      simp [results, Try.results55, go_sem, q0]
    · intro W' _ hb'
      exact ⟨by rw [hw], Below.trans (by (repeat' (first | (with_reducible exact Below.refl _ _) | (with_reducible refine Below.alloc ?_ ?_ _) | (with_reducible refine Below.drew ?_) | (with_reducible refine Below.setCell ?_ ?_ _) | (with_reducible refine Below.trans ?_ (Below.mono (by assumption) ?_)) | go_size))) (hb'.mono (by omega))⟩
  case stop =>
    rintro D c S W hD ⟨hb, hc⟩ hSD hK
    have HK := Lib.hid hK
    clear hK
    cases c with
    | ret =>
      obtain ⟨hw, c1⟩ := hc
      gi_wp2
      refine mark_back (.bool false) ?_ ?_ ?_
      · exact HK.out
      · intro W' hW'
        have q0 : W'.cell? ⟨w.heap.size + 1, 0, none⟩ = some (.bool false) := (World.cell?_of_block (a := ⟨w.heap.size + 1, 0, none⟩) (hW' _ (by dsimp only; omega))).trans (by (repeat (first | (with_reducible assumption) | (with_reducible apply sameS) | ((with_reducible apply born); (focus (simp; done)); (focus rfl)) | (with_reducible apply keepA) | (with_reducible apply keepD) | ((with_reducible apply keepS); focus ((repeat (first | rw [World.size_alloc] | rw [World.size_setCell] | rw [World.size_drew])); omega)) | ((with_reducible apply keep); (focus (with_reducible assumption))))))
        simp [results, Try.results55, go_sem, q0]
      · intro W' _ hb'
        exact ⟨by rw [hw], Below.trans (by (repeat' (first | (with_reducible exact Below.refl _ _) | (with_reducible refine Below.alloc ?_ ?_ _) | (with_reducible refine Below.drew ?_) | (with_reducible refine Below.setCell ?_ ?_ _) | (with_reducible refine Below.trans ?_ (Below.mono (by assumption) ?_)) | go_size))) (hb'.mono (by omega))⟩
    | exit id =>
      obtain ⟨rfl, hw, r, c1, f1⟩ := hc
      gi_wp2
      go_wp2_with fail
      refine mark_back (.bool true) ?_ ?_ ?_
      · exact heap_cells HK.out (by dsimp only; omega)
      · intro W' hW'
        have q0 : W'.cell? ⟨w.heap.size + 1, 0, none⟩ = some (.bool true) := (World.cell?_of_block (a := ⟨w.heap.size + 1, 0, none⟩) (hW' _ (by dsimp only; omega))).trans (by (repeat (first | (with_reducible assumption) | (with_reducible apply sameS) | ((with_reducible apply born); (focus (simp; done)); (focus rfl)) | (with_reducible apply keepA) | (with_reducible apply keepD) | ((with_reducible apply keepS); focus ((repeat (first | rw [World.size_alloc] | rw [World.size_setCell] | rw [World.size_drew])); omega)) | ((with_reducible apply keep); (focus (with_reducible assumption))))))
        simp [results, Try.results55, go_sem, q0]
      · intro W' _ hb'
        exact ⟨by rw [hw], Below.trans (by (repeat' (first | (with_reducible exact Below.refl _ _) | (with_reducible refine Below.alloc ?_ ?_ _) | (with_reducible refine Below.drew ?_) | (with_reducible refine Below.setCell ?_ ?_ _) | (with_reducible refine Below.trans ?_ (Below.mono (by assumption) ?_)) | go_size))) (hb'.mono (by omega))⟩
    | _ => exact hc.elim
end Go.Proofs.Ytnochfnmkenemaa

namespace Go.Proofs.Ytnochfnmkenemaa
open Go Go.RowKit
attribute [local go_sem] World.cell?_alloc_some cell?_alloc2_some cell?_alloc3_some cell?_alloc4_some frozen?_alloc_some frozen?_alloc2_some frozen?_alloc3_some World.cell?_setCell_far new_ne0 new_ne1 new_ne2 new_ne3 lt2 lt3 lt4 lt5 lt6 lt7 lt8 lt9

theorem prO_f {a b : Int} (h : gok a b = false) : prO a b = false := by simp [prO, h]
theorem prO_in {a b : Int} (k : gok a b = true) (ha : a ≠ 0) (hb : b ≠ 0) : prO a b = wpB (a * a + b * b) := by
  have hab : (a != 0 && b != 0) = true := by simp [ha, hb]
  rw [prO, k, hab]; rfl
theorem prO_on {a b : Int} (k : gok a b = true) (h : a = 0 ∨ b = 0) : prO a b = (mxB a b % 4 == 3 && wpB (mxB a b)) := by
  have hab : (a != 0 && b != 0) = false := by rcases h with rfl | rfl <;> simp
  rw [prO, k, hab]; rfl
theorem mxB_sum {a b : Int} (h : a = 0 ∨ b = 0) : mxB a b = max (a + b) (-a - b) := by unfold mxB; omega

set_option maxHeartbeats 4000000 in
theorem iPrimeOk (a b : Int) (w : World) : Calls Try.prog 17 #[.agg #[.int .i64 a, .int .i64 b]] w fun e w' => e = .returned (.bool (prO a b)) ∧ Below w.heap.size w w' := by
  cases k : gok a b
  · rw [prO_f k]
    go_enter Try.func17, Try.ntmps17
    go_wp2_with fail
    (refine (iGaussOk _ _ _).mono ?_; rintro e w1 ⟨rfl, hb1⟩; have hz1 := hb1.size; (repeat (first | rw [World.size_alloc] at hz1 | rw [World.size_setCell] at hz1 | rw [World.size_drew] at hz1)); have pp := C2.K hb1 (b := w.heap.size) (x := _) (y := _) (by (repeat (first | ((with_reducible apply C2.mk) <;> (with_reducible assumption)) | (with_reducible apply C2.Z) | (with_reducible apply C2.O) | ((with_reducible apply C2.B); (focus (simp; done))) | (with_reducible apply C2.A) | (with_reducible apply C2.D) | ((with_reducible apply C2.S); focus ((repeat (first | rw [World.size_alloc] | rw [World.size_setCell] | rw [World.size_drew])); omega)) | ((with_reducible apply C2.K); (focus (with_reducible assumption)))))); obtain ⟨kk1, kk2⟩ := pp)
    go_wp2_with fail
    go_returns
    exact ⟨rfl, by (repeat' (first | (with_reducible exact Below.refl _ _) | (with_reducible refine Below.alloc ?_ ?_ _) | (with_reducible refine Below.drew ?_) | (with_reducible refine Below.setCell ?_ ?_ _) | (with_reducible refine Below.trans ?_ (Below.mono (by assumption) ?_)) | go_size))⟩
  obtain ⟨a1, a2, b1, b2⟩ := gok_bd k
  by_cases h0 : a = 0 ∨ b = 0
  · rw [prO_on k h0]
    rcases (show (b = 0 ∧ 0 < a) ∨ (b = 0 ∧ a < 0) ∨ (a = 0 ∧ 0 < b) ∨ (a = 0 ∧ b < 0) ∨ (a = 0 ∧ b = 0) by omega) with ⟨rfl, h⟩ | ⟨rfl, h⟩ | ⟨rfl, h⟩ | ⟨rfl, h⟩ | ⟨rfl, rfl⟩
    · rw [show mxB a 0 = a by unfold mxB; omega]
      have hz : (a == 0) = false := by simp; omega
      cases h3 : (a % 4 == 3)
      · have h4 : ((a).tmod 4 == 3) = false := by rw [Int.tmod_eq_emod_of_nonneg (by omega)]; exact h3
        rw [Bool.false_and]
        go_enter Try.func17, Try.ntmps17
        go_wp2_with fail
        (refine (iGaussOk _ _ _).mono ?_; rintro e w1 ⟨rfl, hb1⟩; have hz1 := hb1.size; (repeat (first | rw [World.size_alloc] at hz1 | rw [World.size_setCell] at hz1 | rw [World.size_drew] at hz1)); have pp := C2.K hb1 (b := w.heap.size) (x := _) (y := _) (by (repeat (first | ((with_reducible apply C2.mk) <;> (with_reducible assumption)) | (with_reducible apply C2.Z) | (with_reducible apply C2.O) | ((with_reducible apply C2.B); (focus (simp; done))) | (with_reducible apply C2.A) | (with_reducible apply C2.D) | ((with_reducible apply C2.S); focus ((repeat (first | rw [World.size_alloc] | rw [World.size_setCell] | rw [World.size_drew])); omega)) | ((with_reducible apply C2.K); (focus (with_reducible assumption)))))); obtain ⟨kk3, kk4⟩ := pp; (try clear kk1 kk2))
        go_wp2_with fail
        go_returns
        exact ⟨rfl, by (repeat' (first | (with_reducible exact Below.refl _ _) | (with_reducible refine Below.alloc ?_ ?_ _) | (with_reducible refine Below.drew ?_) | (with_reducible refine Below.setCell ?_ ?_ _) | (with_reducible refine Below.trans ?_ (Below.mono (by assumption) ?_)) | go_size))⟩
      · have h4 : ((a).tmod 4 == 3) = true := by rw [Int.tmod_eq_emod_of_nonneg (by omega)]; exact h3
        rw [Bool.true_and]
        go_enter Try.func17, Try.ntmps17
        go_wp2_with fail
        (refine (iGaussOk _ _ _).mono ?_; rintro e w1 ⟨rfl, hb1⟩; have hz1 := hb1.size; (repeat (first | rw [World.size_alloc] at hz1 | rw [World.size_setCell] at hz1 | rw [World.size_drew] at hz1)); have pp := C2.K hb1 (b := w.heap.size) (x := _) (y := _) (by (repeat (first | ((with_reducible apply C2.mk) <;> (with_reducible assumption)) | (with_reducible apply C2.Z) | (with_reducible apply C2.O) | ((with_reducible apply C2.B); (focus (simp; done))) | (with_reducible apply C2.A) | (with_reducible apply C2.D) | ((with_reducible apply C2.S); focus ((repeat (first | rw [World.size_alloc] | rw [World.size_setCell] | rw [World.size_drew])); omega)) | ((with_reducible apply C2.K); (focus (with_reducible assumption)))))); obtain ⟨kk5, kk6⟩ := pp; (try clear kk3 kk4))
        go_wp2_with fail
        (refine (iWholePrimeOk (a) _ (by omega)).mono ?_; rintro e w3 ⟨rfl, hb3⟩; have hz3 := hb3.size; (repeat (first | rw [World.size_alloc] at hz3 | rw [World.size_setCell] at hz3 | rw [World.size_drew] at hz3)); (try clear kk5 kk6))
        go_wp2_with fail
        go_returns
        exact ⟨rfl, by (repeat' (first | (with_reducible exact Below.refl _ _) | (with_reducible refine Below.alloc ?_ ?_ _) | (with_reducible refine Below.drew ?_) | (with_reducible refine Below.setCell ?_ ?_ _) | (with_reducible refine Below.trans ?_ (Below.mono (by assumption) ?_)) | go_size))⟩
    · rw [show mxB a 0 = -a by unfold mxB; omega]
      have hz : (a == 0) = false := by simp; omega
      cases h3 : (-a % 4 == 3)
      · have h4 : (-(a.tmod 4) == 3) = false := by rw [← Int.neg_tmod, Int.tmod_eq_emod_of_nonneg (by omega)]; exact h3
        rw [Bool.false_and]
        go_enter Try.func17, Try.ntmps17
        go_wp2_with fail
        (refine (iGaussOk _ _ _).mono ?_; rintro e w1 ⟨rfl, hb1⟩; have hz1 := hb1.size; (repeat (first | rw [World.size_alloc] at hz1 | rw [World.size_setCell] at hz1 | rw [World.size_drew] at hz1)); have pp := C2.K hb1 (b := w.heap.size) (x := _) (y := _) (by (repeat (first | ((with_reducible apply C2.mk) <;> (with_reducible assumption)) | (with_reducible apply C2.Z) | (with_reducible apply C2.O) | ((with_reducible apply C2.B); (focus (simp; done))) | (with_reducible apply C2.A) | (with_reducible apply C2.D) | ((with_reducible apply C2.S); focus ((repeat (first | rw [World.size_alloc] | rw [World.size_setCell] | rw [World.size_drew])); omega)) | ((with_reducible apply C2.K); (focus (with_reducible assumption)))))); obtain ⟨kk7, kk8⟩ := pp)
        go_wp2_with fail
        go_returns
        exact ⟨rfl, by (repeat' (first | (with_reducible exact Below.refl _ _) | (with_reducible refine Below.alloc ?_ ?_ _) | (with_reducible refine Below.drew ?_) | (with_reducible refine Below.setCell ?_ ?_ _) | (with_reducible refine Below.trans ?_ (Below.mono (by assumption) ?_)) | go_size))⟩
      · have h4 : (-(a.tmod 4) == 3) = true := by rw [← Int.neg_tmod, Int.tmod_eq_emod_of_nonneg (by omega)]; exact h3
        rw [Bool.true_and]
        go_enter Try.func17, Try.ntmps17
        go_wp2_with fail
        (refine (iGaussOk _ _ _).mono ?_; rintro e w1 ⟨rfl, hb1⟩; have hz1 := hb1.size; (repeat (first | rw [World.size_alloc] at hz1 | rw [World.size_setCell] at hz1 | rw [World.size_drew] at hz1)); have pp := C2.K hb1 (b := w.heap.size) (x := _) (y := _) (by (repeat (first | ((with_reducible apply C2.mk) <;> (with_reducible assumption)) | (with_reducible apply C2.Z) | (with_reducible apply C2.O) | ((with_reducible apply C2.B); (focus (simp; done))) | (with_reducible apply C2.A) | (with_reducible apply C2.D) | ((with_reducible apply C2.S); focus ((repeat (first | rw [World.size_alloc] | rw [World.size_setCell] | rw [World.size_drew])); omega)) | ((with_reducible apply C2.K); (focus (with_reducible assumption)))))); obtain ⟨kk9, kk10⟩ := pp; (try clear kk7 kk8))
        go_wp2_with fail
        (refine (iWholePrimeOk (-a) _ (by omega)).mono ?_; rintro e w3 ⟨rfl, hb3⟩; have hz3 := hb3.size; (repeat (first | rw [World.size_alloc] at hz3 | rw [World.size_setCell] at hz3 | rw [World.size_drew] at hz3)); (try clear kk9 kk10))
        go_wp2_with fail
        go_returns
        exact ⟨rfl, by (repeat' (first | (with_reducible exact Below.refl _ _) | (with_reducible refine Below.alloc ?_ ?_ _) | (with_reducible refine Below.drew ?_) | (with_reducible refine Below.setCell ?_ ?_ _) | (with_reducible refine Below.trans ?_ (Below.mono (by assumption) ?_)) | go_size))⟩
    · rw [show mxB 0 b = b by unfold mxB; omega]
      have hz : (b == 0) = false := by simp; omega
      cases h3 : (b % 4 == 3)
      · have h4 : ((b).tmod 4 == 3) = false := by rw [Int.tmod_eq_emod_of_nonneg (by omega)]; exact h3
        rw [Bool.false_and]
        go_enter Try.func17, Try.ntmps17
        go_wp2_with fail
        (refine (iGaussOk _ _ _).mono ?_; rintro e w1 ⟨rfl, hb1⟩; have hz1 := hb1.size; (repeat (first | rw [World.size_alloc] at hz1 | rw [World.size_setCell] at hz1 | rw [World.size_drew] at hz1)); have pp := C2.K hb1 (b := w.heap.size) (x := _) (y := _) (by (repeat (first | ((with_reducible apply C2.mk) <;> (with_reducible assumption)) | (with_reducible apply C2.Z) | (with_reducible apply C2.O) | ((with_reducible apply C2.B); (focus (simp; done))) | (with_reducible apply C2.A) | (with_reducible apply C2.D) | ((with_reducible apply C2.S); focus ((repeat (first | rw [World.size_alloc] | rw [World.size_setCell] | rw [World.size_drew])); omega)) | ((with_reducible apply C2.K); (focus (with_reducible assumption)))))); obtain ⟨kk11, kk12⟩ := pp)
        go_wp2_with fail
        go_returns
        exact ⟨rfl, by (repeat' (first | (with_reducible exact Below.refl _ _) | (with_reducible refine Below.alloc ?_ ?_ _) | (with_reducible refine Below.drew ?_) | (with_reducible refine Below.setCell ?_ ?_ _) | (with_reducible refine Below.trans ?_ (Below.mono (by assumption) ?_)) | go_size))⟩
      · have h4 : ((b).tmod 4 == 3) = true := by rw [Int.tmod_eq_emod_of_nonneg (by omega)]; exact h3
        rw [Bool.true_and]
        go_enter Try.func17, Try.ntmps17
        go_wp2_with fail
        (refine (iGaussOk _ _ _).mono ?_; rintro e w1 ⟨rfl, hb1⟩; have hz1 := hb1.size; (repeat (first | rw [World.size_alloc] at hz1 | rw [World.size_setCell] at hz1 | rw [World.size_drew] at hz1)); have pp := C2.K hb1 (b := w.heap.size) (x := _) (y := _) (by (repeat (first | ((with_reducible apply C2.mk) <;> (with_reducible assumption)) | (with_reducible apply C2.Z) | (with_reducible apply C2.O) | ((with_reducible apply C2.B); (focus (simp; done))) | (with_reducible apply C2.A) | (with_reducible apply C2.D) | ((with_reducible apply C2.S); focus ((repeat (first | rw [World.size_alloc] | rw [World.size_setCell] | rw [World.size_drew])); omega)) | ((with_reducible apply C2.K); (focus (with_reducible assumption)))))); obtain ⟨kk13, kk14⟩ := pp; (try clear kk11 kk12))
        go_wp2_with fail
        (refine (iWholePrimeOk (b) _ (by omega)).mono ?_; rintro e w3 ⟨rfl, hb3⟩; have hz3 := hb3.size; (repeat (first | rw [World.size_alloc] at hz3 | rw [World.size_setCell] at hz3 | rw [World.size_drew] at hz3)); (try clear kk13 kk14))
        go_wp2_with fail
        go_returns
        exact ⟨rfl, by (repeat' (first | (with_reducible exact Below.refl _ _) | (with_reducible refine Below.alloc ?_ ?_ _) | (with_reducible refine Below.drew ?_) | (with_reducible refine Below.setCell ?_ ?_ _) | (with_reducible refine Below.trans ?_ (Below.mono (by assumption) ?_)) | go_size))⟩
    · rw [show mxB 0 b = -b by unfold mxB; omega]
      have hz : (b == 0) = false := by simp; omega
      cases h3 : (-b % 4 == 3)
      · have h4 : (-(b.tmod 4) == 3) = false := by rw [← Int.neg_tmod, Int.tmod_eq_emod_of_nonneg (by omega)]; exact h3
        rw [Bool.false_and]
        go_enter Try.func17, Try.ntmps17
        go_wp2_with fail
        (refine (iGaussOk _ _ _).mono ?_; rintro e w1 ⟨rfl, hb1⟩; have hz1 := hb1.size; (repeat (first | rw [World.size_alloc] at hz1 | rw [World.size_setCell] at hz1 | rw [World.size_drew] at hz1)); have pp := C2.K hb1 (b := w.heap.size) (x := _) (y := _) (by (repeat (first | ((with_reducible apply C2.mk) <;> (with_reducible assumption)) | (with_reducible apply C2.Z) | (with_reducible apply C2.O) | ((with_reducible apply C2.B); (focus (simp; done))) | (with_reducible apply C2.A) | (with_reducible apply C2.D) | ((with_reducible apply C2.S); focus ((repeat (first | rw [World.size_alloc] | rw [World.size_setCell] | rw [World.size_drew])); omega)) | ((with_reducible apply C2.K); (focus (with_reducible assumption)))))); obtain ⟨kk15, kk16⟩ := pp)
        go_wp2_with fail
        go_returns
        exact ⟨rfl, by (repeat' (first | (with_reducible exact Below.refl _ _) | (with_reducible refine Below.alloc ?_ ?_ _) | (with_reducible refine Below.drew ?_) | (with_reducible refine Below.setCell ?_ ?_ _) | (with_reducible refine Below.trans ?_ (Below.mono (by assumption) ?_)) | go_size))⟩
      · have h4 : (-(b.tmod 4) == 3) = true := by rw [← Int.neg_tmod, Int.tmod_eq_emod_of_nonneg (by omega)]; exact h3
        rw [Bool.true_and]
        go_enter Try.func17, Try.ntmps17
        go_wp2_with fail
        (refine (iGaussOk _ _ _).mono ?_; rintro e w1 ⟨rfl, hb1⟩; have hz1 := hb1.size; (repeat (first | rw [World.size_alloc] at hz1 | rw [World.size_setCell] at hz1 | rw [World.size_drew] at hz1)); have pp := C2.K hb1 (b := w.heap.size) (x := _) (y := _) (by (repeat (first | ((with_reducible apply C2.mk) <;> (with_reducible assumption)) | (with_reducible apply C2.Z) | (with_reducible apply C2.O) | ((with_reducible apply C2.B); (focus (simp; done))) | (with_reducible apply C2.A) | (with_reducible apply C2.D) | ((with_reducible apply C2.S); focus ((repeat (first | rw [World.size_alloc] | rw [World.size_setCell] | rw [World.size_drew])); omega)) | ((with_reducible apply C2.K); (focus (with_reducible assumption)))))); obtain ⟨kk17, kk18⟩ := pp; (try clear kk15 kk16))
        go_wp2_with fail
        (refine (iWholePrimeOk (-b) _ (by omega)).mono ?_; rintro e w3 ⟨rfl, hb3⟩; have hz3 := hb3.size; (repeat (first | rw [World.size_alloc] at hz3 | rw [World.size_setCell] at hz3 | rw [World.size_drew] at hz3)); (try clear kk17 kk18))
        go_wp2_with fail
        go_returns
        exact ⟨rfl, by (repeat' (first | (with_reducible exact Below.refl _ _) | (with_reducible refine Below.alloc ?_ ?_ _) | (with_reducible refine Below.drew ?_) | (with_reducible refine Below.setCell ?_ ?_ _) | (with_reducible refine Below.trans ?_ (Below.mono (by assumption) ?_)) | go_size))⟩
    · go_enter Try.func17, Try.ntmps17
      go_wp2_with fail
      (refine (iGaussOk _ _ _).mono ?_; rintro e w1 ⟨rfl, hb1⟩; have hz1 := hb1.size; (repeat (first | rw [World.size_alloc] at hz1 | rw [World.size_setCell] at hz1 | rw [World.size_drew] at hz1)); have pp := C2.K hb1 (b := w.heap.size) (x := _) (y := _) (by (repeat (first | ((with_reducible apply C2.mk) <;> (with_reducible assumption)) | (with_reducible apply C2.Z) | (with_reducible apply C2.O) | ((with_reducible apply C2.B); (focus (simp; done))) | (with_reducible apply C2.A) | (with_reducible apply C2.D) | ((with_reducible apply C2.S); focus ((repeat (first | rw [World.size_alloc] | rw [World.size_setCell] | rw [World.size_drew])); omega)) | ((with_reducible apply C2.K); (focus (with_reducible assumption)))))); obtain ⟨kk19, kk20⟩ := pp)
      go_wp2_with fail
      go_returns
      exact ⟨rfl, by (repeat' (first | (with_reducible exact Below.refl _ _) | (with_reducible refine Below.alloc ?_ ?_ _) | (with_reducible refine Below.drew ?_) | (with_reducible refine Below.setCell ?_ ?_ _) | (with_reducible refine Below.trans ?_ (Below.mono (by assumption) ?_)) | go_size))⟩
  · have ha : a ≠ 0 := fun h => h0 (.inl h)
    have hb : b ≠ 0 := fun h => h0 (.inr h)
    rw [prO_in k ha hb]
    have ha' : (a == 0) = false := by simpa using ha
    have hb' : (b == 0) = false := by simpa using hb
    have ha2 : (a != 0) = true := by simpa using ha
    have hb2 : (b != 0) = true := by simpa using hb
    obtain ⟨s1, s2, s3, s4⟩ := sq_bd k
    obtain ⟨m, hm⟩ : ∃ m, a * a + b * b = m := ⟨_, rfl⟩
    rw [hm]
    go_enter Try.func17, Try.ntmps17
    go_wp2_with fail
    (refine (iGaussOk _ _ _).mono ?_; rintro e w1 ⟨rfl, hb1⟩; have hz1 := hb1.size; (repeat (first | rw [World.size_alloc] at hz1 | rw [World.size_setCell] at hz1 | rw [World.size_drew] at hz1)); have pp := C2.K hb1 (b := w.heap.size) (x := _) (y := _) (by (repeat (first | ((with_reducible apply C2.mk) <;> (with_reducible assumption)) | (with_reducible apply C2.Z) | (with_reducible apply C2.O) | ((with_reducible apply C2.B); (focus (simp; done))) | (with_reducible apply C2.A) | (with_reducible apply C2.D) | ((with_reducible apply C2.S); focus ((repeat (first | rw [World.size_alloc] | rw [World.size_setCell] | rw [World.size_drew])); omega)) | ((with_reducible apply C2.K); (focus (with_reducible assumption)))))); obtain ⟨kk21, kk22⟩ := pp; (try clear kk19 kk20))
    go_wp2_with fail
    (refine (igNorm_v _ k hm).mono ?_; rintro e w2 ⟨rfl, hb2⟩; have hz2 := hb2.size; (repeat (first | rw [World.size_alloc] at hz2 | rw [World.size_setCell] at hz2 | rw [World.size_drew] at hz2)); (try clear kk21 kk22))
    go_wp2_with fail
    (refine (iWholePrimeOk m _ (by omega)).mono ?_; rintro e w3 ⟨rfl, hb3⟩; have hz3 := hb3.size; (repeat (first | rw [World.size_alloc] at hz3 | rw [World.size_setCell] at hz3 | rw [World.size_drew] at hz3)))
    go_wp2_with fail
    go_returns
    exact ⟨rfl, by (repeat' (first | (with_reducible exact Below.refl _ _) | (with_reducible refine Below.alloc ?_ ?_ _) | (with_reducible refine Below.drew ?_) | (with_reducible refine Below.setCell ?_ ?_ _) | (with_reducible refine Below.trans ?_ (Below.mono (by assumption) ?_)) | go_size))⟩
theorem knO_no {p : Int} (h : ¬ (2 ≤ p ∧ p ≤ 1000) ∨ wpB p = false) : knO p = -1 := by
  unfold knO
  rcases h with h | h
  · rw [decide_eq_false h]; rfl
  · rw [h, Bool.and_false]; rfl
theorem knO_yes {p : Int} (h2 : p ≤ 1000) (hw : wpB p = true) : knO p = if p = 2 then 0 else if p % 4 = 1 then 1 else 2 := by
  have := (wpB_iff.1 hw).1
  unfold knO
  rw [hw, decide_eq_true ⟨this, h2⟩]; rfl
end Go.Proofs.Ytnochfnmkenemaa

namespace Go.Proofs.Ytnochfnmkenemaa
open Go Go.RowKit
attribute [local go_sem] World.cell?_alloc_some cell?_alloc2_some cell?_alloc3_some cell?_alloc4_some frozen?_alloc_some frozen?_alloc2_some frozen?_alloc3_some World.cell?_setCell_far new_ne0 new_ne1 new_ne2 new_ne3 lt2 lt3 lt4 lt5 lt6 lt7 lt8 lt9

set_option maxHeartbeats 1000000 in
theorem sl5Prime (n : Int) (w : World) (hn : n ≤ 2000000) : Calls Try.prog 86 #[.int .i64 n] w fun e w' => e = .returned (.bool (wpB n)) ∧ Below w.heap.size w w' := by
  go_enter Try.func86, Try.ntmps86
  go_wp2_with fail
  go_loopw [3] (fun v wr => ∃ k : Nat, v = .int .i64 (k : Int) ∧ 2 ≤ k ∧ k ≤ 1415 ∧ (∀ j : Int, 2 ≤ j → j < k → n % j ≠ 0) ∧ w = wr) (fun v _ => 2000 - (intOf v).toNat)
  case atStart => exact ⟨2, rfl, by omega, by omega, fun j h1 h2 => by omega, rfl⟩
  case round =>
    obtain ⟨k, rfl, h2, hk, hno, rfl⟩ := hrel
    have hkk : ((k * k : Nat) : Int) = (k : Int) * k := by simp
    have hk2 : k * k ≤ 2002225 := Nat.mul_le_mul hk hk
    have hk4 : 4 ≤ k * k := Nat.mul_le_mul h2 h2
    by_cases hle : (k : Int) * k ≤ n
    · have hd : decide ((k : Int) * k ≤ n) = true := decide_eq_true hle
      have hk1 : k ≤ 1414 := by
        rcases Nat.lt_or_ge 1414 k with h | h
        · have := Nat.mul_le_mul h h; omega
        · exact h
      have hk0 : ((k : Int) == 0) = false := by simp; omega
      have hn0 : 0 ≤ n := by omega
      have hxb : -2000000 ≤ n % k ∧ n % k ≤ 2000000 := by
        have := Int.emod_nonneg n (show (k : Int) ≠ 0 by omega)
        have := Int.emod_lt_of_pos n (show 0 < (k : Int) by omega)
        omega
      obtain ⟨hx1, hx2⟩ := hxb
      by_cases hm : n % k = 0
      · have hx0 : (n % k == 0) = true := by rw [beq_iff_eq]; exact hm
        have hw := not_wpB (n := n) (q := k) (by omega) hle hm
        go_wp2_with fail
        go_returns
        exact ⟨by first | rfl | (rw [hw]; rfl), by (repeat' (first | (with_reducible exact Below.refl _ _) | (with_reducible refine Below.alloc ?_ ?_ _) | (with_reducible refine Below.drew ?_) | (with_reducible refine Below.setCell ?_ ?_ _) | (with_reducible refine Below.trans ?_ (Below.mono (by assumption) ?_)) | go_size))⟩
      · have hx0 : (n % k == 0) = false := by simpa using hm
        go_wp2_with fail
        go_roundw
        case rel =>
          refine ⟨k + 1, by simp, by omega, by omega, fun j h1 h2 => ?_, by simp⟩
          by_cases e : j = k
          · subst e; exact hm
          · exact hno j h1 (by omega)
        case measure => simp [intOf]; omega
    · have hd : decide ((k : Int) * k ≤ n) = false := decide_eq_false hle
      have hw : wpB n = decide (2 ≤ n) := by
        by_cases h : 2 ≤ n
        · rw [decide_eq_true h, wpB_iff]
          refine ⟨h, fun j h1 h3 => hno j h1 ?_⟩
          rcases Int.lt_or_le j k with h4 | h4
          · exact h4
          · have := Int.mul_le_mul h4 h4 (by omega) (by omega); omega
        · rw [decide_eq_false h]
          cases h' : wpB n
          · rfl
          · exact absurd (wpB_iff.1 h').1 h
      go_wp2_with fail
      go_returns
      exact ⟨by first | rfl | (rw [hw]; rfl), by (repeat' (first | (with_reducible exact Below.refl _ _) | (with_reducible refine Below.alloc ?_ ?_ _) | (with_reducible refine Below.drew ?_) | (with_reducible refine Below.setCell ?_ ?_ _) | (with_reducible refine Below.trans ?_ (Below.mono (by assumption) ?_)) | go_size))⟩

theorem run_max4 {P : Program} (w : World) (ts : Array TypeId) (t : TypeId) (x y z u : Int) : (Builtin.max_ ts t #[.int .i64 x, .int .i64 y, .int .i64 z, .int .i64 u]).run P w = .ok (.int .i64 (max (max (max x y) z) u)) w := by
  have e : ∀ a b : Int, (if b > a then b else a) = max a b := fun a b => by rw [Int.max_def]; split <;> split <;> omega
  simp [Builtin.max_, Builtin.max2, e]
set_option maxHeartbeats 4000000 in
theorem sPrimeOk (a b : Int) (w : World) : Calls Try.prog 68 #[.agg #[.int .i64 a, .int .i64 b]] w fun e w' => e = .returned (.bool (prO a b)) ∧ Below w.heap.size w w' := by
  cases k : gok a b
  · rw [prO_f k]
    go_enter Try.func68, Try.ntmps68
    go_wp2_with fail
    (refine (sGaussOk _ _ _).mono ?_; rintro e w1 ⟨rfl, hb1⟩; have hz1 := hb1.size; (repeat (first | rw [World.size_alloc] at hz1 | rw [World.size_setCell] at hz1 | rw [World.size_drew] at hz1)); have pp := C2.K hb1 (b := w.heap.size) (x := _) (y := _) (by (repeat (first | ((with_reducible apply C2.mk) <;> (with_reducible assumption)) | (with_reducible apply C2.Z) | (with_reducible apply C2.O) | ((with_reducible apply C2.B); (focus (simp; done))) | (with_reducible apply C2.A) | (with_reducible apply C2.D) | ((with_reducible apply C2.S); focus ((repeat (first | rw [World.size_alloc] | rw [World.size_setCell] | rw [World.size_drew])); omega)) | ((with_reducible apply C2.K); (focus (with_reducible assumption)))))); obtain ⟨kk1, kk2⟩ := pp)
    go_wp2_with fail
    go_returns
    exact ⟨rfl, by (repeat' (first | (with_reducible exact Below.refl _ _) | (with_reducible refine Below.alloc ?_ ?_ _) | (with_reducible refine Below.drew ?_) | (with_reducible refine Below.setCell ?_ ?_ _) | (with_reducible refine Below.trans ?_ (Below.mono (by assumption) ?_)) | go_size))⟩
  obtain ⟨a1, a2, b1, b2⟩ := gok_bd k
  by_cases h0 : a = 0 ∨ b = 0
  · rw [prO_on k h0]
    rcases (show (b = 0 ∧ 0 < a) ∨ (b = 0 ∧ a < 0) ∨ (a = 0 ∧ 0 < b) ∨ (a = 0 ∧ b < 0) ∨ (a = 0 ∧ b = 0) by omega) with ⟨rfl, h⟩ | ⟨rfl, h⟩ | ⟨rfl, h⟩ | ⟨rfl, h⟩ | ⟨rfl, rfl⟩
    · rw [show mxB a 0 = a by unfold mxB; omega]
      have hmx : ∀ (W : World) (ts : Array TypeId) (t : TypeId), (Builtin.max_ ts t #[.int .i64 a, .int .i64 (-a), .int .i64 0, .int .i64 0]).run Try.prog W = .ok (.int .i64 (a)) W := fun W ts t => by rw [run_max4, show max (max (max (a) ((-a))) (0)) (0) = a by omega]
      have hz : (a == 0) = false := by simp; omega
      cases h3 : (a % 4 == 3)
      · have h4 : ((a).tmod 4 == 3) = false := by rw [Int.tmod_eq_emod_of_nonneg (by omega)]; exact h3
        rw [Bool.false_and]
        go_enter Try.func68, Try.ntmps68
        go_wp2_with fail
        (refine (sGaussOk _ _ _).mono ?_; rintro e w1 ⟨rfl, hb1⟩; have hz1 := hb1.size; (repeat (first | rw [World.size_alloc] at hz1 | rw [World.size_setCell] at hz1 | rw [World.size_drew] at hz1)); have pp := C2.K hb1 (b := w.heap.size) (x := _) (y := _) (by (repeat (first | ((with_reducible apply C2.mk) <;> (with_reducible assumption)) | (with_reducible apply C2.Z) | (with_reducible apply C2.O) | ((with_reducible apply C2.B); (focus (simp; done))) | (with_reducible apply C2.A) | (with_reducible apply C2.D) | ((with_reducible apply C2.S); focus ((repeat (first | rw [World.size_alloc] | rw [World.size_setCell] | rw [World.size_drew])); omega)) | ((with_reducible apply C2.K); (focus (with_reducible assumption)))))); obtain ⟨kk3, kk4⟩ := pp; (try clear kk1 kk2))
        go_wp2_with fail
        go_returns
        exact ⟨rfl, by (repeat' (first | (with_reducible exact Below.refl _ _) | (with_reducible refine Below.alloc ?_ ?_ _) | (with_reducible refine Below.drew ?_) | (with_reducible refine Below.setCell ?_ ?_ _) | (with_reducible refine Below.trans ?_ (Below.mono (by assumption) ?_)) | go_size))⟩
      · have h4 : ((a).tmod 4 == 3) = true := by rw [Int.tmod_eq_emod_of_nonneg (by omega)]; exact h3
        rw [Bool.true_and]
        go_enter Try.func68, Try.ntmps68
        go_wp2_with fail
        (refine (sGaussOk _ _ _).mono ?_; rintro e w1 ⟨rfl, hb1⟩; have hz1 := hb1.size; (repeat (first | rw [World.size_alloc] at hz1 | rw [World.size_setCell] at hz1 | rw [World.size_drew] at hz1)); have pp := C2.K hb1 (b := w.heap.size) (x := _) (y := _) (by (repeat (first | ((with_reducible apply C2.mk) <;> (with_reducible assumption)) | (with_reducible apply C2.Z) | (with_reducible apply C2.O) | ((with_reducible apply C2.B); (focus (simp; done))) | (with_reducible apply C2.A) | (with_reducible apply C2.D) | ((with_reducible apply C2.S); focus ((repeat (first | rw [World.size_alloc] | rw [World.size_setCell] | rw [World.size_drew])); omega)) | ((with_reducible apply C2.K); (focus (with_reducible assumption)))))); obtain ⟨kk5, kk6⟩ := pp; (try clear kk3 kk4))
        go_wp2_with fail
        (refine (sl5Prime (a) _ (by omega)).mono ?_; rintro e w3 ⟨rfl, hb3⟩; have hz3 := hb3.size; (repeat (first | rw [World.size_alloc] at hz3 | rw [World.size_setCell] at hz3 | rw [World.size_drew] at hz3)); (try clear kk5 kk6))
        go_wp2_with fail
        go_returns
        exact ⟨rfl, by (repeat' (first | (with_reducible exact Below.refl _ _) | (with_reducible refine Below.alloc ?_ ?_ _) | (with_reducible refine Below.drew ?_) | (with_reducible refine Below.setCell ?_ ?_ _) | (with_reducible refine Below.trans ?_ (Below.mono (by assumption) ?_)) | go_size))⟩
    · rw [show mxB a 0 = -a by unfold mxB; omega]
      have hmx : ∀ (W : World) (ts : Array TypeId) (t : TypeId), (Builtin.max_ ts t #[.int .i64 a, .int .i64 (-a), .int .i64 0, .int .i64 0]).run Try.prog W = .ok (.int .i64 (-a)) W := fun W ts t => by rw [run_max4, show max (max (max (a) ((-a))) (0)) (0) = -a by omega]
      have hz : (a == 0) = false := by simp; omega
      cases h3 : (-a % 4 == 3)
      · have h4 : (-(a.tmod 4) == 3) = false := by rw [← Int.neg_tmod, Int.tmod_eq_emod_of_nonneg (by omega)]; exact h3
        rw [Bool.false_and]
        go_enter Try.func68, Try.ntmps68
        go_wp2_with fail
        (refine (sGaussOk _ _ _).mono ?_; rintro e w1 ⟨rfl, hb1⟩; have hz1 := hb1.size; (repeat (first | rw [World.size_alloc] at hz1 | rw [World.size_setCell] at hz1 | rw [World.size_drew] at hz1)); have pp := C2.K hb1 (b := w.heap.size) (x := _) (y := _) (by (repeat (first | ((with_reducible apply C2.mk) <;> (with_reducible assumption)) | (with_reducible apply C2.Z) | (with_reducible apply C2.O) | ((with_reducible apply C2.B); (focus (simp; done))) | (with_reducible apply C2.A) | (with_reducible apply C2.D) | ((with_reducible apply C2.S); focus ((repeat (first | rw [World.size_alloc] | rw [World.size_setCell] | rw [World.size_drew])); omega)) | ((with_reducible apply C2.K); (focus (with_reducible assumption)))))); obtain ⟨kk7, kk8⟩ := pp)
        go_wp2_with fail
        go_returns
        exact ⟨rfl, by (repeat' (first | (with_reducible exact Below.refl _ _) | (with_reducible refine Below.alloc ?_ ?_ _) | (with_reducible refine Below.drew ?_) | (with_reducible refine Below.setCell ?_ ?_ _) | (with_reducible refine Below.trans ?_ (Below.mono (by assumption) ?_)) | go_size))⟩
      · have h4 : (-(a.tmod 4) == 3) = true := by rw [← Int.neg_tmod, Int.tmod_eq_emod_of_nonneg (by omega)]; exact h3
        rw [Bool.true_and]
        go_enter Try.func68, Try.ntmps68
        go_wp2_with fail
        (refine (sGaussOk _ _ _).mono ?_; rintro e w1 ⟨rfl, hb1⟩; have hz1 := hb1.size; (repeat (first | rw [World.size_alloc] at hz1 | rw [World.size_setCell] at hz1 | rw [World.size_drew] at hz1)); have pp := C2.K hb1 (b := w.heap.size) (x := _) (y := _) (by (repeat (first | ((with_reducible apply C2.mk) <;> (with_reducible assumption)) | (with_reducible apply C2.Z) | (with_reducible apply C2.O) | ((with_reducible apply C2.B); (focus (simp; done))) | (with_reducible apply C2.A) | (with_reducible apply C2.D) | ((with_reducible apply C2.S); focus ((repeat (first | rw [World.size_alloc] | rw [World.size_setCell] | rw [World.size_drew])); omega)) | ((with_reducible apply C2.K); (focus (with_reducible assumption)))))); obtain ⟨kk9, kk10⟩ := pp; (try clear kk7 kk8))
        go_wp2_with fail
        (refine (sl5Prime (-a) _ (by omega)).mono ?_; rintro e w3 ⟨rfl, hb3⟩; have hz3 := hb3.size; (repeat (first | rw [World.size_alloc] at hz3 | rw [World.size_setCell] at hz3 | rw [World.size_drew] at hz3)); (try clear kk9 kk10))
        go_wp2_with fail
        go_returns
        exact ⟨rfl, by (repeat' (first | (with_reducible exact Below.refl _ _) | (with_reducible refine Below.alloc ?_ ?_ _) | (with_reducible refine Below.drew ?_) | (with_reducible refine Below.setCell ?_ ?_ _) | (with_reducible refine Below.trans ?_ (Below.mono (by assumption) ?_)) | go_size))⟩
    · rw [show mxB 0 b = b by unfold mxB; omega]
      have hmx : ∀ (W : World) (ts : Array TypeId) (t : TypeId), (Builtin.max_ ts t #[.int .i64 0, .int .i64 0, .int .i64 b, .int .i64 (-b)]).run Try.prog W = .ok (.int .i64 (b)) W := fun W ts t => by rw [run_max4, show max (max (max (0) (0)) (b)) ((-b)) = b by omega]
      have hz : (b == 0) = false := by simp; omega
      cases h3 : (b % 4 == 3)
      · have h4 : ((b).tmod 4 == 3) = false := by rw [Int.tmod_eq_emod_of_nonneg (by omega)]; exact h3
        rw [Bool.false_and]
        go_enter Try.func68, Try.ntmps68
        go_wp2_with fail
        (refine (sGaussOk _ _ _).mono ?_; rintro e w1 ⟨rfl, hb1⟩; have hz1 := hb1.size; (repeat (first | rw [World.size_alloc] at hz1 | rw [World.size_setCell] at hz1 | rw [World.size_drew] at hz1)); have pp := C2.K hb1 (b := w.heap.size) (x := _) (y := _) (by (repeat (first | ((with_reducible apply C2.mk) <;> (with_reducible assumption)) | (with_reducible apply C2.Z) | (with_reducible apply C2.O) | ((with_reducible apply C2.B); (focus (simp; done))) | (with_reducible apply C2.A) | (with_reducible apply C2.D) | ((with_reducible apply C2.S); focus ((repeat (first | rw [World.size_alloc] | rw [World.size_setCell] | rw [World.size_drew])); omega)) | ((with_reducible apply C2.K); (focus (with_reducible assumption)))))); obtain ⟨kk11, kk12⟩ := pp)
        go_wp2_with fail
        go_returns
        exact ⟨rfl, by (repeat' (first | (with_reducible exact Below.refl _ _) | (with_reducible refine Below.alloc ?_ ?_ _) | (with_reducible refine Below.drew ?_) | (with_reducible refine Below.setCell ?_ ?_ _) | (with_reducible refine Below.trans ?_ (Below.mono (by assumption) ?_)) | go_size))⟩
      · have h4 : ((b).tmod 4 == 3) = true := by rw [Int.tmod_eq_emod_of_nonneg (by omega)]; exact h3
        rw [Bool.true_and]
        go_enter Try.func68, Try.ntmps68
        go_wp2_with fail
        (refine (sGaussOk _ _ _).mono ?_; rintro e w1 ⟨rfl, hb1⟩; have hz1 := hb1.size; (repeat (first | rw [World.size_alloc] at hz1 | rw [World.size_setCell] at hz1 | rw [World.size_drew] at hz1)); have pp := C2.K hb1 (b := w.heap.size) (x := _) (y := _) (by (repeat (first | ((with_reducible apply C2.mk) <;> (with_reducible assumption)) | (with_reducible apply C2.Z) | (with_reducible apply C2.O) | ((with_reducible apply C2.B); (focus (simp; done))) | (with_reducible apply C2.A) | (with_reducible apply C2.D) | ((with_reducible apply C2.S); focus ((repeat (first | rw [World.size_alloc] | rw [World.size_setCell] | rw [World.size_drew])); omega)) | ((with_reducible apply C2.K); (focus (with_reducible assumption)))))); obtain ⟨kk13, kk14⟩ := pp; (try clear kk11 kk12))
        go_wp2_with fail
        (refine (sl5Prime (b) _ (by omega)).mono ?_; rintro e w3 ⟨rfl, hb3⟩; have hz3 := hb3.size; (repeat (first | rw [World.size_alloc] at hz3 | rw [World.size_setCell] at hz3 | rw [World.size_drew] at hz3)); (try clear kk13 kk14))
        go_wp2_with fail
        go_returns
        exact ⟨rfl, by (repeat' (first | (with_reducible exact Below.refl _ _) | (with_reducible refine Below.alloc ?_ ?_ _) | (with_reducible refine Below.drew ?_) | (with_reducible refine Below.setCell ?_ ?_ _) | (with_reducible refine Below.trans ?_ (Below.mono (by assumption) ?_)) | go_size))⟩
    · rw [show mxB 0 b = -b by unfold mxB; omega]
      have hmx : ∀ (W : World) (ts : Array TypeId) (t : TypeId), (Builtin.max_ ts t #[.int .i64 0, .int .i64 0, .int .i64 b, .int .i64 (-b)]).run Try.prog W = .ok (.int .i64 (-b)) W := fun W ts t => by rw [run_max4, show max (max (max (0) (0)) (b)) ((-b)) = -b by omega]
      have hz : (b == 0) = false := by simp; omega
      cases h3 : (-b % 4 == 3)
      · have h4 : (-(b.tmod 4) == 3) = false := by rw [← Int.neg_tmod, Int.tmod_eq_emod_of_nonneg (by omega)]; exact h3
        rw [Bool.false_and]
        go_enter Try.func68, Try.ntmps68
        go_wp2_with fail
        (refine (sGaussOk _ _ _).mono ?_; rintro e w1 ⟨rfl, hb1⟩; have hz1 := hb1.size; (repeat (first | rw [World.size_alloc] at hz1 | rw [World.size_setCell] at hz1 | rw [World.size_drew] at hz1)); have pp := C2.K hb1 (b := w.heap.size) (x := _) (y := _) (by (repeat (first | ((with_reducible apply C2.mk) <;> (with_reducible assumption)) | (with_reducible apply C2.Z) | (with_reducible apply C2.O) | ((with_reducible apply C2.B); (focus (simp; done))) | (with_reducible apply C2.A) | (with_reducible apply C2.D) | ((with_reducible apply C2.S); focus ((repeat (first | rw [World.size_alloc] | rw [World.size_setCell] | rw [World.size_drew])); omega)) | ((with_reducible apply C2.K); (focus (with_reducible assumption)))))); obtain ⟨kk15, kk16⟩ := pp)
        go_wp2_with fail
        go_returns
        exact ⟨rfl, by (repeat' (first | (with_reducible exact Below.refl _ _) | (with_reducible refine Below.alloc ?_ ?_ _) | (with_reducible refine Below.drew ?_) | (with_reducible refine Below.setCell ?_ ?_ _) | (with_reducible refine Below.trans ?_ (Below.mono (by assumption) ?_)) | go_size))⟩
      · have h4 : (-(b.tmod 4) == 3) = true := by rw [← Int.neg_tmod, Int.tmod_eq_emod_of_nonneg (by omega)]; exact h3
        rw [Bool.true_and]
        go_enter Try.func68, Try.ntmps68
        go_wp2_with fail
        (refine (sGaussOk _ _ _).mono ?_; rintro e w1 ⟨rfl, hb1⟩; have hz1 := hb1.size; (repeat (first | rw [World.size_alloc] at hz1 | rw [World.size_setCell] at hz1 | rw [World.size_drew] at hz1)); have pp := C2.K hb1 (b := w.heap.size) (x := _) (y := _) (by (repeat (first | ((with_reducible apply C2.mk) <;> (with_reducible assumption)) | (with_reducible apply C2.Z) | (with_reducible apply C2.O) | ((with_reducible apply C2.B); (focus (simp; done))) | (with_reducible apply C2.A) | (with_reducible apply C2.D) | ((with_reducible apply C2.S); focus ((repeat (first | rw [World.size_alloc] | rw [World.size_setCell] | rw [World.size_drew])); omega)) | ((with_reducible apply C2.K); (focus (with_reducible assumption)))))); obtain ⟨kk17, kk18⟩ := pp; (try clear kk15 kk16))
        go_wp2_with fail
        (refine (sl5Prime (-b) _ (by omega)).mono ?_; rintro e w3 ⟨rfl, hb3⟩; have hz3 := hb3.size; (repeat (first | rw [World.size_alloc] at hz3 | rw [World.size_setCell] at hz3 | rw [World.size_drew] at hz3)); (try clear kk17 kk18))
        go_wp2_with fail
        go_returns
        exact ⟨rfl, by (repeat' (first | (with_reducible exact Below.refl _ _) | (with_reducible refine Below.alloc ?_ ?_ _) | (with_reducible refine Below.drew ?_) | (with_reducible refine Below.setCell ?_ ?_ _) | (with_reducible refine Below.trans ?_ (Below.mono (by assumption) ?_)) | go_size))⟩
    · have hmx : ∀ (W : World) (ts : Array TypeId) (t : TypeId), (Builtin.max_ ts t #[.int .i64 0, .int .i64 0, .int .i64 0, .int .i64 0]).run Try.prog W = .ok (.int .i64 0) W := fun W ts t => run_max4 _ _ _ _ _ _ _
      go_enter Try.func68, Try.ntmps68
      go_wp2_with fail
      (refine (sGaussOk _ _ _).mono ?_; rintro e w1 ⟨rfl, hb1⟩; have hz1 := hb1.size; (repeat (first | rw [World.size_alloc] at hz1 | rw [World.size_setCell] at hz1 | rw [World.size_drew] at hz1)); have pp := C2.K hb1 (b := w.heap.size) (x := _) (y := _) (by (repeat (first | ((with_reducible apply C2.mk) <;> (with_reducible assumption)) | (with_reducible apply C2.Z) | (with_reducible apply C2.O) | ((with_reducible apply C2.B); (focus (simp; done))) | (with_reducible apply C2.A) | (with_reducible apply C2.D) | ((with_reducible apply C2.S); focus ((repeat (first | rw [World.size_alloc] | rw [World.size_setCell] | rw [World.size_drew])); omega)) | ((with_reducible apply C2.K); (focus (with_reducible assumption)))))); obtain ⟨kk19, kk20⟩ := pp)
      go_wp2_with fail
      go_returns
      exact ⟨rfl, by (repeat' (first | (with_reducible exact Below.refl _ _) | (with_reducible refine Below.alloc ?_ ?_ _) | (with_reducible refine Below.drew ?_) | (with_reducible refine Below.setCell ?_ ?_ _) | (with_reducible refine Below.trans ?_ (Below.mono (by assumption) ?_)) | go_size))⟩
  · have ha : a ≠ 0 := fun h => h0 (.inl h)
    have hb : b ≠ 0 := fun h => h0 (.inr h)
    rw [prO_in k ha hb]
    have ha' : (a == 0) = false := by simpa using ha
    have hb' : (b == 0) = false := by simpa using hb
    have ha2 : (a != 0) = true := by simpa using ha
    have hb2 : (b != 0) = true := by simpa using hb
    obtain ⟨s1, s2, s3, s4⟩ := sq_bd k
    obtain ⟨m, hm⟩ : ∃ m, a * a + b * b = m := ⟨_, rfl⟩
    rw [hm]
    go_enter Try.func68, Try.ntmps68
    go_wp2_with fail
    (refine (sGaussOk _ _ _).mono ?_; rintro e w1 ⟨rfl, hb1⟩; have hz1 := hb1.size; (repeat (first | rw [World.size_alloc] at hz1 | rw [World.size_setCell] at hz1 | rw [World.size_drew] at hz1)); have pp := C2.K hb1 (b := w.heap.size) (x := _) (y := _) (by (repeat (first | ((with_reducible apply C2.mk) <;> (with_reducible assumption)) | (with_reducible apply C2.Z) | (with_reducible apply C2.O) | ((with_reducible apply C2.B); (focus (simp; done))) | (with_reducible apply C2.A) | (with_reducible apply C2.D) | ((with_reducible apply C2.S); focus ((repeat (first | rw [World.size_alloc] | rw [World.size_setCell] | rw [World.size_drew])); omega)) | ((with_reducible apply C2.K); (focus (with_reducible assumption)))))); obtain ⟨kk21, kk22⟩ := pp; (try clear kk19 kk20))
    go_wp2_with fail
    (refine (slNorm_v _ k hm).mono ?_; rintro e w2 ⟨rfl, hb2⟩; have hz2 := hb2.size; (repeat (first | rw [World.size_alloc] at hz2 | rw [World.size_setCell] at hz2 | rw [World.size_drew] at hz2)); (try clear kk21 kk22))
    go_wp2_with fail
    (refine (sl5Prime m _ (by omega)).mono ?_; rintro e w3 ⟨rfl, hb3⟩; have hz3 := hb3.size; (repeat (first | rw [World.size_alloc] at hz3 | rw [World.size_setCell] at hz3 | rw [World.size_drew] at hz3)))
    go_wp2_with fail
    go_returns
    exact ⟨rfl, by (repeat' (first | (with_reducible exact Below.refl _ _) | (with_reducible refine Below.alloc ?_ ?_ _) | (with_reducible refine Below.drew ?_) | (with_reducible refine Below.setCell ?_ ?_ _) | (with_reducible refine Below.trans ?_ (Below.mono (by assumption) ?_)) | go_size))⟩

theorem l1In_kind (p : Int) (w : World) : Calls Try.prog 64 #[.int .i64 p, .int .i64 2, .int .i64 1000] w fun e w' => e = .returned (.bool (decide (2 ≤ p ∧ p ≤ 1000))) ∧ Below w.heap.size w w' :=
  (l1In p 2 1000 w).mono fun e w' ⟨h1, h2⟩ => ⟨h1, by subst h2; exact Below.refl _ _⟩
end Go.Proofs.Ytnochfnmkenemaa
