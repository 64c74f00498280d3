import Derived.Test.YtpjememmogaeiaaProg
import Derived.Test.YtpjememmogaeiaaYa
import Derived.Test.YtpjememmogaeiaaYb
import Derived.Test.YtpjememmogaeiaaOb
import Derived.RangeFuncNested
import Derived.Shelf.RegionOpen
import Derived.OwnWalkIn
import Derived.TacticsInMore
namespace Go.Proofs.Ytpjememmogaeiaa
open Go Go.RowKit Go.Shelf
attribute [local go_sem] World.cell?_alloc_some cell?_alloc2_some cell?_alloc3_some cell?_alloc4_some frozen?_alloc_some frozen?_alloc2_some frozen?_alloc3_some World.cell?_setCell_far new_ne0 new_ne1 new_ne2 new_ne3 lt2 lt3 lt4 lt5 lt6 lt7 lt8 lt9
attribute [local go_sem] Oper.semAt_some

theorem sieve_zero : Try.zeroCells80 = Array.replicate 1415 (.bool false) := by kernel_rfl
/-- A block of 1415 flags. -/
def Arr (W : World) (X : Nat) (f : Nat → Bool) : Prop := ∃ cs t, W.heap[X]? = some (.cells cs t (0, 0)) ∧ cs.size = 1415 ∧ ∀ i, i ≤ 1414 → cs[i]? = some (.bool (f i))
theorem Arr.cell {W : World} {X : Nat} {f : Nat → Bool} (h : Arr W X f) {i : Nat} (hi : i ≤ 1414) : W.cell? ⟨X, i, none⟩ = some (.bool (f i)) := by
  obtain ⟨cs, t, hb, -, hc⟩ := h
  rw [cell_of_row W X i cs t (0, 0) hb]; exact hc i hi
theorem Arr.frozen {W : World} {X : Nat} {f : Nat → Bool} (h : Arr W X f) (i : Nat) : W.frozen? ⟨X, i, none⟩ = false := by
  obtain ⟨cs, t, hb, -, hc⟩ := h
  exact frozen_of_row W X i cs t hb
theorem Arr.set {W : World} {X : Nat} {f : Nat → Bool} (h : Arr W X f) (m : Nat) (hm : m ≤ 1414) : Arr (W.setCell ⟨X, m, none⟩ (.bool true)) X (fun i => if i = m then true else f i) := by
  obtain ⟨cs, t, hb, hs, hc⟩ := h
  refine ⟨cs.setIfInBounds m (.bool true), t, heap_setCell_same W X m cs t _ hb, by simpa using hs, fun i hi => ?_⟩
  by_cases e : i = m
  · subst e; rw [Array.getElem?_setIfInBounds_self_of_lt (by omega)]; simp
  · rw [Array.getElem?_setIfInBounds_ne (by omega)]
    simp only [if_neg e]; exact hc i hi
theorem Arr.keep {K : Nat → Prop} {V W : World} {X : Nat} {f : Nat → Bool} (h : Arr V X f) (k : Keep K V W) (hX : K X) : Arr W X f := by
  obtain ⟨cs, t, hb, hs, hc⟩ := h
  exact ⟨cs, t, k.heap hX hb, hs, hc⟩
theorem Arr.lt {W : World} {X : Nat} {f : Nat → Bool} (h : Arr W X f) : X < W.heap.size := by
  obtain ⟨cs, t, hb, -⟩ := h
  exact (Array.getElem?_eq_some_iff.1 hb).1
theorem Arr.born (w : World) : Arr (w.alloc (.cells Try.zeroCells80 80)) w.heap.size (fun _ => false) := by
  refine ⟨_, _, heap_alloc_new w _, by rw [sieve_zero, Array.size_replicate], fun i hi => ?_⟩
  rw [sieve_zero, Array.getElem?_replicate, if_pos (by omega)]

/-- What holds between two rounds of the sieve. -/
def Sv (W : World) (J : Nat → (Nat → Prop) → World → Prop) (xs : List (Array Value)) (X : Nat) (v : Value) (wr : World) : Prop :=
  ∃ (i k p : Nat) (S : Nat → Prop) (f : Nat → Bool), v = .int .i64 (p : Int) ∧ 2 ≤ p ∧ p + k = 1415 ∧ i ≤ xs.length ∧ xs.drop i = prsFrom k p ∧ J i S wr ∧ Arr wr X f ∧ SvAt p f ∧ (∀ b, S b → W.heap.size ≤ b ∧ b < wr.heap.size) ∧ ¬ S X ∧ W.heap.size ≤ X ∧ W.heap.size ≤ wr.heap.size
/-- While multiples are crossed out. -/
def Sm (W : World) (J : Nat → (Nat → Prop) → World → Prop) (i p X : Nat) (S : Nat → Prop) (v : Value) (wr : World) : Prop :=
  ∃ (m : Nat) (f : Nat → Bool), v = .int .i64 (m : Int) ∧ p * p ≤ m ∧ (m : Int) % p = 0 ∧ J i S wr ∧ Arr wr X f ∧ SvIn p m f ∧ (∀ b, S b → W.heap.size ≤ b ∧ b < wr.heap.size) ∧ W.heap.size ≤ wr.heap.size

set_option maxHeartbeats 4000000 in
theorem wholePrimes_gives (w : World) : IterG Try.prog 75 #[] (prsFrom 1413 2) (fun _ => False) w := by
  intro l J Jx W _ hJ hJx hY h0
  obtain ⟨xs, hxs⟩ : ∃ xs, prsFrom 1413 2 = xs := ⟨_, rfl⟩
  rw [hxs] at hY ⊢
  refine callsIn_of_wp Try.func75 rfl trivial ?_ rfl
  simp only [Try.ntmps75, List.size_toArray, List.length_cons, List.length_nil, Nat.reduceAdd, Nat.reduceSub, Array.replicate_succ, Array.replicate_zero, List.push_toArray, List.append_toArray, List.nil_append, List.cons_append]
  refine wpIn_wide.2 ?_
  go_wp2_with fail
  go_loopw [3] (fun v wr => Sv W J xs W.heap.size v wr) (fun v _ => 1415 - (intOf v).toNat)
  case atStart =>
    refine ⟨0, 1413, 2, fun _ => False, fun _ => false, rfl, by omega, by omega, Nat.zero_le _, by rw [List.drop_zero, show ((2 : Nat) : Int) = 2 from rfl, hxs], hJ _ _ _ _ h0 (Keep.of_below _ (by (repeat' (first | (with_reducible exact Below.refl _ _) | (with_reducible refine Below.alloc ?_ ?_ _) | (with_reducible refine Below.drew ?_) | (with_reducible refine Below.setCell ?_ ?_ _) | (with_reducible refine Below.trans ?_ (Below.mono (by assumption) ?_)) | go_size)))), ?_, SvAt.start, fun _ h => h.elim, fun h => h, Nat.le_refl _, by simp⟩
    exact Arr.born W
  case round =>
    obtain ⟨i, k, p, S, f, rfl, h2, hk, hil, hxs', hJr, hA, hf, hS, hSX, hX, hs⟩ := hrel
    cases k with
    | zero =>
      have hlt : decide ((p : Int) ≤ 1414) = false := decide_eq_false (by omega)
      have hi := drop_end hil hxs'
      go_wp2_with fail
      go_end0
      exact ⟨⟨_, rfl⟩, hs, .inl ⟨S, hi ▸ hJr⟩⟩
    | succ k =>
      have hlt : decide ((p : Int) ≤ 1414) = true := decide_eq_true (by omega)
      have hcell := hA.cell (i := p) (by omega)
      have hself := hf.self h2 (by omega)
      cases hw : wpB (p : Int)
      · rw [hw] at hself
        rw [hself] at hcell
        go_wp2_with fail
        go_roundw
        case rel => exact ⟨i, k, p + 1, S, f, by simp, by omega, by omega, hil, by rw [hxs', prs_miss hw]; rfl, hJr, hA, hf.miss (fun h => by rw [wpB_iff.2 h] at hw; cases hw), hS, hSX, hX, hs⟩
        case measure => simp [intOf]; omega
      · rw [hw] at hself
        rw [hself] at hcell
        rw [prs_hit hw] at hxs'
        obtain ⟨hx, hxs2⟩ := drop_cons hxs'
        have hl1 : i + 1 ≤ xs.length := by have := (List.getElem?_eq_some_iff.1 hx).1; omega
        have hp := wpB_iff.1 hw
        obtain ⟨fn, tmps, assign, body, hy, hR⟩ := hY i S _ wr hx hJr hs hS
        go_upto_region 5 with fail
        refine (wpIn_wide (n := 8)).1 ?_
        gi_wp2
        refine hR.mono ?_
        rintro e W3 ⟨c, S', rfl, hc, hS', hk3⟩
        have hX3 : Arr W3 W.heap.size f := hA.keep hk3 ⟨hSX, .inr (Nat.le_refl _)⟩
        have hs3 := hk3.size
        cases c
        · gi_wp2
          go_wp2_with fail
          go_returns
          exact ⟨⟨_, rfl⟩, by omega, .inr ⟨i, S', hc⟩⟩
        · have hSX' : ¬ S' W.heap.size := fun h => by
            rcases (hS' _ h).1 with h | h
            · exact hSX h
            · have := hA.lt; omega
          have hS2 : ∀ b, S' b → W.heap.size ≤ b ∧ b < W3.heap.size := fun b hb => by
            refine ⟨?_, (hS' b hb).2⟩
            rcases (hS' b hb).1 with h | h
            · exact (hS b h).1
            · omega
          have hsW : W.heap.size ≤ W3.heap.size := by omega
          have hpp : ((p * p : Nat) : Int) = (p : Int) * p := by simp
          have hp2 : p * p ≤ 1999396 := Nat.mul_le_mul (show p ≤ 1414 by omega) (show p ≤ 1414 by omega)
          obtain ⟨M, hM⟩ : ∃ M, p * p = M := ⟨_, rfl⟩
          have hMi : (p : Int) * p = M := by rw [← hM, hpp]
          have hMm : (M : Int) % p = 0 := by rw [← hMi]; exact Int.mul_emod_left _ _
          have hfi : SvIn p M f := by rw [← hMi]; exact hf.into
          clear hR hy hcell hself hpp hA hJr hS' hk3 hx
          gi_wp2
          go_wp2_with fail
          go_loopw [4] (fun v wr => Sm W J (i + 1) p W.heap.size S' v wr) (fun v _ => 3000 - (intOf v).toNat)
          case atStart => exact ⟨M, f, rfl, by omega, hMm, hc, hX3, hfi, hS2, hsW⟩
          case round =>
            clear hc hX3 hfi hs3 hS2
            obtain ⟨m, f', rfl, hpm, hmm, hJr, hA, hf', hS2, hs2⟩ := hrel
            by_cases hm : m ≤ 1414
            · have hlt : decide ((m : Int) ≤ 1414) = true := decide_eq_true (by omega)
              have hcell := hA.cell hm
              have hfz := hA.frozen m
              go_wp2_with fail
              go_roundw
              case rel =>
                refine ⟨m + p, _, by simp, by omega, ?_, hJ _ _ _ _ hJr (Keep.setCell (Keep.refl _ _) ?_ _), hA.set m hm, by rw [Int.natCast_add]; exact hf'.step (by omega) (by omega) hmm, fun b hb => by simpa using hS2 b hb, by simpa using hs2⟩
                · rw [Int.natCast_add, Int.add_emod_right]; exact hmm
                · rintro (h | h)
                  · simp at h
                  · exact hSX' h
              case measure => simp [intOf]; omega
            · have hlt : decide ((m : Int) ≤ 1414) = false := decide_eq_false (by omega)
              go_wp2_with fail
              go_roundw
              case rel => exact ⟨i + 1, k, p + 1, S', f', by simp, by omega, by omega, hl1, hxs2, hJr, hA, hf'.out hp (by omega), hS2, hSX', hX, hs2⟩
              case measure => simp [intOf]; omega
end Go.Proofs.Ytpjememmogaeiaa
