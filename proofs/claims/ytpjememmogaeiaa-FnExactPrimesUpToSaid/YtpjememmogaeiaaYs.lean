import Derived.Test.YtpjememmogaeiaaYj
import Derived.Test.YtpjememmogaeiaaHs
import Derived.Test.YtpjememmogaeiaaL
import Derived.BigRegion
namespace Go.Proofs.Ytpjememmogaeiaa
open Go Go.RowKit
attribute [local go_sem] World.cell?_alloc_some cell?_alloc2_some cell?_alloc3_some cell?_alloc4_some frozen?_alloc_some frozen?_alloc2_some frozen?_alloc3_some World.cell?_setCell_far new_ne0 new_ne1 new_ne2 new_ne3 lt2 lt3 lt4 lt5 lt6 lt7 lt8 lt9
attribute [local go_sem ↓] eqG neG

/-- The cells of a list in memory. -/
def At (W : World) (g : Nat) (l : List (Int × Int)) : Prop := ∀ j x y, l[j]? = some (x, y) → W.cell? ⟨g, j * 2, none⟩ = some (.int .i64 x) ∧ W.cell? ⟨g, j * 2 + 1, none⟩ = some (.int .i64 y)
theorem GS.at {W : World} {base : Nat} {v : Value} {l : List (Int × Int)} (h : GS W base v l) (hl : l ≠ []) : ∃ g cap, v = .slice (some ⟨g, 0, none⟩) l.length cap ∧ base ≤ g ∧ g < W.heap.size ∧ At W g l ∧ ∀ i, W.frozen? ⟨g, i, none⟩ = false := by
  have hp : 0 < l.length := List.length_pos_iff.2 hl
  obtain ⟨g, cap, rfl, h1, h2⟩ := World.ownsRow.form h hp
  refine ⟨g, cap, rfl, h1, h2, fun j x y hj => ?_, fun i => World.ownsRow.frozenAt h i⟩
  have hlt : j < l.length := (List.getElem?_eq_some_iff.1 hj).1
  obtain ⟨e0, e1⟩ := gCells_at l j x y hj
  constructor
  · rw [World.ownsRow.cellAt h (j * 2) (by omega), Nat.mul_comm]; exact e0
  · rw [World.ownsRow.cellAt h (j * 2 + 1) (by omega), Nat.mul_comm]; exact e1
theorem GS.len {W : World} {base : Nat} {v : Value} {l : List (Int × Int)} (h : GS W base v l) (hl : l = []) : ∃ a cap, v = .slice a 0 cap := by
  subst hl
  rcases h.2 with ⟨rfl, _⟩ | ⟨g, cap, cur, rfl, _⟩
  · exact ⟨_, _, rfl⟩
  · exact ⟨_, _, rfl⟩
/-- The value is a slice of as many as the list has. -/
theorem GS.form {W : World} {base : Nat} {v : Value} {l : List (Int × Int)} (h : GS W base v l) : ∃ a cap, v = .slice a l.length cap ∧ (l ≠ [] → ∃ g, a = some ⟨g, 0, none⟩ ∧ base ≤ g ∧ g < W.heap.size ∧ At W g l ∧ ∀ i, W.frozen? ⟨g, i, none⟩ = false) := by
  by_cases hl : l = []
  · obtain ⟨a, cap, rfl⟩ := h.len hl
    exact ⟨a, cap, by rw [hl]; rfl, fun h' => absurd hl h'⟩
  · obtain ⟨g, cap, rfl, h1, h2, h3, h4⟩ := h.at hl
    exact ⟨_, cap, rfl, fun _ => ⟨g, rfl, h1, h2, h3, h4⟩⟩

set_option maxHeartbeats 2000000 in
theorem sameGauss (v v' : Value) (b b' : Nat) (l : List (Int × Int)) (w : World) (h : GS w b v l) (h' : GS w b' v' l) (hl : l.length ≤ 1000000) :
    Calls Try.prog 32 #[v, v'] w fun e w' => e = .returned (.bool true) ∧ Below w.heap.size w w' := by
  obtain ⟨a, cap, rfl, ha⟩ := h.form
  obtain ⟨a', cap', rfl, ha'⟩ := h'.form
  clear h h'
  go_enter Try.func32, Try.ntmps32
  go_wp2_with fail
  go_loopw [5] (fun u wr => ∃ k : Nat, u = .int .i64 (k : Int) ∧ k ≤ l.length ∧ Below w.heap.size w wr) (fun u _ => l.length - (intOf u).toNat)
  case atStart => exact ⟨0, rfl, Nat.zero_le _, by (repeat' (first | (with_reducible exact Below.refl _ _) | (with_reducible refine Below.alloc ?_ ?_ _) | (with_reducible refine Below.drew ?_) | (with_reducible refine Below.setCell ?_ ?_ _) | (with_reducible refine Below.trans ?_ (Below.mono (by assumption) ?_)) | go_size))⟩
  case round =>
    obtain ⟨k, rfl, hk, hb⟩ := hrel
    by_cases hlt : k < l.length
    · have hd : decide ((k : Int) < (l.length : Int)) = true := decide_eq_true (by omega)
      obtain ⟨⟨x, y⟩, hxy⟩ : ∃ q, l[k]? = some q := ⟨_, List.getElem?_eq_getElem hlt⟩
      have hne : l ≠ [] := by rintro rfl; simp at hlt
      obtain ⟨g, rfl, -, -, hA, -⟩ := ha hne
      obtain ⟨g', rfl, -, -, hA', -⟩ := ha' hne
      obtain ⟨c0, c1⟩ := hA k x y hxy
      obtain ⟨c2, c3⟩ := hA' k x y hxy
      have d0 := keep hb c0
      have d1 := keep hb c1
      have d2 := keep hb c2
      have d3 := keep hb c3
      clear c0 c1 c2 c3 hA hA' ha ha'
      go_wp2_with fail
      go_region
      all_goals go_wp2_with fail
      all_goals go_roundw
      all_goals first | exact ⟨k + 1, by simp, by omega, hb.drew⟩ | (simp [intOf]; omega)
    · have hd : decide ((k : Int) < (l.length : Int)) = false := decide_eq_false (by omega)
      go_wp2_with fail
      go_returns
      exact ⟨rfl, hb⟩
set_option maxHeartbeats 2000000 in
theorem eqGaussS (v v' : Value) (b b' : Nat) (l : List (Int × Int)) (w : World) (h : GS w b v l) (h' : GS w b' v' l) (hl : l.length ≤ 1000000) :
    Calls Try.prog 41 #[v, v'] w fun e w' => e = .returned (.bool true) ∧ Below w.heap.size w w' := by
  obtain ⟨a, cap, rfl, ha⟩ := h.form
  obtain ⟨a', cap', rfl, ha'⟩ := h'.form
  clear h h'
  go_enter Try.func41, Try.ntmps41
  go_wp2_with fail
  go_loopw [5] (fun u wr => ∃ k : Nat, u = .int .i64 (k : Int) ∧ k ≤ l.length ∧ Below w.heap.size w wr) (fun u _ => l.length - (intOf u).toNat)
  case atStart => exact ⟨0, rfl, Nat.zero_le _, by (repeat' (first | (with_reducible exact Below.refl _ _) | (with_reducible refine Below.alloc ?_ ?_ _) | (with_reducible refine Below.drew ?_) | (with_reducible refine Below.setCell ?_ ?_ _) | (with_reducible refine Below.trans ?_ (Below.mono (by assumption) ?_)) | go_size))⟩
  case round =>
    obtain ⟨k, rfl, hk, hb⟩ := hrel
    by_cases hlt : k < l.length
    · have hd : decide ((k : Int) < (l.length : Int)) = true := decide_eq_true (by omega)
      obtain ⟨⟨x, y⟩, hxy⟩ : ∃ q, l[k]? = some q := ⟨_, List.getElem?_eq_getElem hlt⟩
      have hne : l ≠ [] := by rintro rfl; simp at hlt
      obtain ⟨g, rfl, -, hg, hA, -⟩ := ha hne
      obtain ⟨g', rfl, -, hg', hA', -⟩ := ha' hne
      obtain ⟨c0, c1⟩ := hA k x y hxy
      obtain ⟨c2, c3⟩ := hA' k x y hxy
      have d0 := keep hb c0
      have d1 := keep hb c1
      have d2 := keep hb c2
      have d3 := keep hb c3
      clear c0 c1 c2 c3 hA hA' ha ha'
      go_wp2_with fail
      refine wp_name ?_
      intro w6 hb6
      have e0 := keep hb6 d0
      have e1 := keep hb6 d1
      have e2 := keep hb6 d2
      have e3 := keep hb6 d3
      have r0 := cell_regrown e0
      have r1 := cell_regrown e1
      have r2 := cell_regrown e2
      have r3 := cell_regrown e3
      clear d0 d1 d2 d3
      refine wp_region_quiet_below (by kernel_rfl) (by kernel_rfl) ?_
      (repeat (first | go_big_quiet_step ((first | (go_at_call 40; exact Calls.regrown_of (eqGauss_t _ _ _)))) | quiet_step ((first | (go_at_call 40; exact Calls.regrown_of (eqGauss_t _ _ _))))))
      refine wpQuiet_nil ?_
      intro w7 hw
      have hb7 := below_of_regrown hw
      clear hw
      go_wp2_with fail
      go_roundw
      case rel => exact ⟨k + 1, by simp, by omega, (hb.trans (hb6.mono hb.size)).trans (hb7.mono (by have := hb.size; have := hb6.size; omega))⟩
      case measure => simp [intOf]; omega
    · have hd : decide ((k : Int) < (l.length : Int)) = false := decide_eq_false (by omega)
      go_wp2_with fail
      go_returns
      exact ⟨rfl, hb⟩
end Go.Proofs.Ytpjememmogaeiaa

namespace Go.Proofs.Ytpjememmogaeiaa
open Go Go.RowKit
attribute [local go_sem] World.cell?_alloc_some cell?_alloc2_some cell?_alloc3_some cell?_alloc4_some frozen?_alloc_some frozen?_alloc2_some frozen?_alloc3_some World.cell?_setCell_far new_ne0 new_ne1 new_ne2 new_ne3 lt2 lt3 lt4 lt5 lt6 lt7 lt8 lt9

theorem gCells_set (l : List (Int × Int)) : ∀ (i : Nat) (x y : Int), i < l.length → ((gCells l).set (i * 2) (.int .i64 x)).set (i * 2 + 1) (.int .i64 y) = gCells (l.set i (x, y)) := by
  induction l with
  | nil => intro i x y h; simp at h
  | cons p t ih =>
    intro i x y h
    cases i with
    | zero => simp [gCells]
    | succ i =>
      have := ih i x y (by simpa using h)
      rw [show (i + 1) * 2 = i * 2 + 1 + 1 by omega]
      simp [gCells, this]
/-- Two cells of the list written anew. -/
theorem GS.put {W : World} {base g cap : Nat} {l : List (Int × Int)} (h : GS W base (.slice (some ⟨g, 0, none⟩) l.length cap) l) (i : Nat) (hi : i < l.length) (x y : Int) :
    GS ((W.setCell ⟨g, i * 2, none⟩ (.int .i64 x)).setCell ⟨g, i * 2 + 1, none⟩ (.int .i64 y)) base (.slice (some ⟨g, 0, none⟩) l.length cap) (l.set i (x, y)) := by
  have h1 := (World.ownsRow.stored h (i * 2) (.int .i64 x)).1
  have h2 := (World.ownsRow.stored h1 (i * 2 + 1) (.int .i64 y)).1
  unfold GS
  rw [List.length_set, ← gCells_set l i x y hi]
  exact h2
/-- Marks in order from k on. -/
def Mk (k : Int) (n : Nat) (l : List (Int × Int)) : Prop := ∀ j, j < n → l[j]? = some (k + 2 * j, k + 2 * j + 1)
theorem Mk.next {k : Int} {n : Nat} {l : List (Int × Int)} (h : Mk k n l) (hn : n < l.length) : Mk k (n + 1) (l.set n (k + 2 * n, k + 2 * n + 1)) := fun j hj => by
  by_cases e : j = n
  · subst e; rw [List.getElem?_set_self hn]
  · rw [List.getElem?_set_ne (by omega)]; exact h j (by omega)

set_option maxHeartbeats 2000000 in
theorem markGaussS (v : Value) (b : Nat) (l : List (Int × Int)) (w : World) (h : GS w b v l) (hl : l.length ≤ 1000000) :
    Calls Try.prog 42 #[v, .int .i64 1] w fun e w' => e = .returned (.int .i64 (1 + 2 * (l.length : Int))) ∧ (∃ l', l'.length = l.length ∧ Mk 1 l.length l' ∧ GS w' b v l') ∧ Keep (fun x => v.ownBlock ≠ some x) w w' := by
  obtain ⟨n, hn⟩ : ∃ n, l.length = n := ⟨_, rfl⟩
  rw [hn] at hl ⊢
  obtain ⟨a, cap, rfl⟩ : ∃ a cap, v = .slice a n cap := by obtain ⟨a, cap, e, -⟩ := h.form; exact ⟨a, cap, by rw [e, hn]⟩
  go_enter Try.func42, Try.ntmps42
  go_wp2_with fail
  go_loopw [1, 5] (fun q u wr => ∃ (k : Nat) (l' : List (Int × Int)), u = .int .i64 (k : Int) ∧ q = .int .i64 (1 + 2 * (k : Int)) ∧ k ≤ n ∧ l'.length = n ∧ Mk 1 k l' ∧ GS wr b (.slice a n cap) l' ∧ Keep (fun x => (Value.slice a n cap).ownBlock ≠ some x) w wr) (fun _ u _ => n - (intOf u).toNat)
  case atStart => exact ⟨0, l, rfl, rfl, Nat.zero_le _, hn, fun j hj => by omega, h, Keep.refl _ _⟩
  case round =>
    clear h hn
    obtain ⟨k, l', rfl, rfl, hk, hn, hm, hg, hkeep⟩ := hrel
    by_cases hlt : k < n
    · have hd : decide ((k : Int) < (n : Int)) = true := decide_eq_true (by omega)
      have hne : l' ≠ [] := by rintro rfl; simp at hn; omega
      obtain ⟨g, cap', e, hbg, hgl, hA, hfz⟩ := hg.at hne
      rw [hn] at e
      injection e with e1 e2 e3
      subst e1 e3
      obtain ⟨⟨x, y⟩, hxy⟩ : ∃ q, l'[k]? = some q := ⟨_, List.getElem?_eq_getElem (by omega)⟩
      obtain ⟨c0, c1⟩ := hA k x y hxy
      have f0 := hfz (k * 2)
      have f1 := hfz (k * 2 + 1)
      have hp := GS.put (cap := cap) (hn ▸ hg) k (by omega) (1 + 2 * (k : Int)) (1 + 2 * (k : Int) + 1)
      rw [hn] at hp
      have hm' := hm.next (by omega)
      clear hA hfz hxy hm
      go_wp2_with fail
      go_roundw
      case rel =>
        refine ⟨k + 1, _, by simp, by simp; omega, by omega, by rw [List.length_set]; exact hn, hm', hp, (hkeep.setCell ?_ _).setCell ?_ _⟩
        · simp [Value.ownBlock]
        · simp [Value.ownBlock]
      case measure => simp [intOf]; omega
    · have hd : decide ((k : Int) < (n : Int)) = false := decide_eq_false (by omega)
      obtain rfl : k = n := by omega
      go_wp2_with fail
      go_returns
      exact ⟨rfl, ⟨l', hn, hm, hg⟩, hkeep⟩
set_option maxHeartbeats 2000000 in
theorem heldGaussS (v : Value) (b : Nat) (l : List (Int × Int)) (w : World) (h : GS w b v l) (hl : l.length ≤ 1000000) (hm : Mk 1 l.length l) :
    Calls Try.prog 43 #[v, .int .i64 1] w fun e w' => e = .returned (.int .i64 (1 + 2 * (l.length : Int))) ∧ Below w.heap.size w w' := by
  obtain ⟨a, cap, rfl, ha⟩ := h.form
  clear h
  obtain ⟨n, hn⟩ : ∃ n, l.length = n := ⟨_, rfl⟩
  rw [hn] at hl hm ⊢
  go_enter Try.func43, Try.ntmps43
  go_wp2_with fail
  go_loopw [1, 5] (fun q u wr => ∃ k : Nat, u = .int .i64 (k : Int) ∧ q = .int .i64 (1 + 2 * (k : Int)) ∧ k ≤ n ∧ w = wr) (fun _ u _ => n - (intOf u).toNat)
  case atStart => exact ⟨0, rfl, rfl, Nat.zero_le _, rfl⟩
  case round =>
    obtain ⟨k, rfl, rfl, hk, rfl⟩ := hrel
    by_cases hlt : k < n
    · have hd : decide ((k : Int) < (n : Int)) = true := decide_eq_true (by omega)
      have hne : l ≠ [] := by rintro rfl; simp at hn; omega
      obtain ⟨g, rfl, -, hg, hA, -⟩ := ha hne
      obtain ⟨c0, c1⟩ := hA k _ _ (hm k hlt)
      clear hA ha hm
      go_wp2_with fail
      go_roundw
      case rel => exact ⟨k + 1, by simp, by simp; omega, by omega, by simp⟩
      case measure => simp [intOf]; omega
    · have hd : decide ((k : Int) < (n : Int)) = false := decide_eq_false (by omega)
      obtain rfl : k = n := by omega
      go_wp2_with fail
      go_returns
      exact ⟨rfl, by (repeat' (first | (with_reducible exact Below.refl _ _) | (with_reducible refine Below.alloc ?_ ?_ _) | (with_reducible refine Below.drew ?_) | (with_reducible refine Below.setCell ?_ ?_ _) | (with_reducible refine Below.trans ?_ (Below.mono (by assumption) ?_)) | go_size))⟩
end Go.Proofs.Ytpjememmogaeiaa

namespace Go.Proofs.Ytpjememmogaeiaa
open Go Go.RowKit
attribute [local go_sem] World.cell?_alloc_some cell?_alloc2_some cell?_alloc3_some cell?_alloc4_some frozen?_alloc_some frozen?_alloc2_some frozen?_alloc3_some World.cell?_setCell_far new_ne0 new_ne1 new_ne2 new_ne3 lt2 lt3 lt4 lt5 lt6 lt7 lt8 lt9

/-- Two lists of which one was made behind the other lie apart. -/
theorem GS.apart {W : World} {base base' : Nat} {v v' : Value} {l l' : List (Int × Int)} (_h : GS W base v l) (h' : GS W base' v' l') (hb : ∀ g, v.ownBlock = some g → g < base') : ∀ g, v.ownBlock = some g → v'.ownBlock ≠ some g := fun g hg e => by
  have := hb g hg
  have := (h'.lt g e).1
  omega
theorem dvL_len (a b : Int) : (dvL a b).length ≤ 2025 := by
  by_cases h : nrm a b < 1 ∨ 2000 < nrm a b
  · rw [dvL_no h]; simp
  · exact (dvL_yes (a := a) (b := b) (by omega) (by omega)).2.2.2.2.2

set_option maxHeartbeats 2000000 in
theorem walkFnExactPrimesUpTo (p : Int) (w : World) (_w0 : (Lit.int .i64 p).wf = true) :
    Calls Try.prog 12 #[.int .i64 p] w fun e w' => e = .returned (.bool true) ∧ Below w.heap.size w w' := by
  clear _w0
  have hl := pg_len p
  obtain ⟨L, hL⟩ : ∃ L, pgL p = L := ⟨_, rfl⟩
  have hS : ∀ W, Calls Try.prog 38 #[.int .i64 p] W fun e w' => ∃ v, e = .returned v ∧ GS w' W.heap.size v L ∧ Below W.heap.size W w' := fun W => by rw [← hL]; exact sPrimesUpTo p W
  have hI : ∀ W, Calls Try.prog 37 #[.int .i64 p] W fun e w' => ∃ v, e = .returned v ∧ GS w' W.heap.size v L ∧ Below W.heap.size W w' := fun W => by rw [← hL]; exact iPrimesUpTo p W
  rw [hL] at hl
  clear hL
  obtain ⟨n, hn⟩ : ∃ n, L.length = n := ⟨_, rfl⟩
  go_enter Try.func12, Try.ntmps12
  go_wp2_with fail
  (refine (hS _).mono ?_; rintro e w1 ⟨v0, rfl, g0, hb1⟩; have hz1 := hb1.size; (repeat (first | rw [World.size_alloc] at hz1 | rw [World.size_setCell] at hz1 | rw [World.size_drew] at hz1)))
  go_wp2_with fail
  (refine (hI _).mono ?_; rintro e w2 ⟨v1, rfl, g1, hb2⟩; have hz2 := hb2.size; (repeat (first | rw [World.size_alloc] at hz2 | rw [World.size_setCell] at hz2 | rw [World.size_drew] at hz2)))
  have k0 := g0.below hb2
  have hap := k0.apart g1 (fun g h => (g0.lt g h).2)
  clear g0
  go_wp2_with fail
  (refine (eqGaussS _ _ _ _ L _ g1 k0 (by omega)).mono ?_; rintro e w3 ⟨rfl, hb3⟩; have hz3 := hb3.size; (repeat (first | rw [World.size_alloc] at hz3 | rw [World.size_setCell] at hz3 | rw [World.size_drew] at hz3)))
  have m0 := k0.below hb3
  have m1 := g1.below hb3
  clear k0 g1
  go_wp2_with fail
  refine (markGaussS _ _ L _ m1 (by omega)).mono ?_
  rintro e w4 ⟨rfl, ⟨L', hn', hm', m1'⟩, hk4⟩
  have n0 := m0.kept hk4 hap
  have hb4 : Below w.heap.size w3 w4 := hk4.below (fun x hx e => by have := (m1.lt x e).1; have := hb1.size; omega) (by have := hb1.size; have := hb2.size; have := hb3.size; omega)
  clear m0 m1 hk4
  rw [hn] at hm' hn' ⊢
  have hm2 : Mk 1 L'.length L' := by rw [hn']; exact hm'
  go_wp2_with fail
  (refine (heldGaussS _ _ L' _ m1' (by omega) hm2).mono ?_; rintro e w5 ⟨rfl, hb5⟩; have hz5 := hb5.size; (repeat (first | rw [World.size_alloc] at hz5 | rw [World.size_setCell] at hz5 | rw [World.size_drew] at hz5)))
  have p0 := n0.below hb5
  have p1 := m1'.below hb5
  clear n0 m1'
  rw [hn']
  go_wp2_with fail
  (refine (hI _).mono ?_; rintro e w6 ⟨v2, rfl, g2, hb6⟩; have hz6 := hb6.size; (repeat (first | rw [World.size_alloc] at hz6 | rw [World.size_setCell] at hz6 | rw [World.size_drew] at hz6)))
  have q0 := p0.below hb6
  have q1 := p1.below hb6
  clear p0 p1
  go_wp2_with fail
  (refine (eqGaussS _ _ _ _ L _ g2 q0 (by omega)).mono ?_; rintro e w7 ⟨rfl, hb7⟩; have hz7 := hb7.size; (repeat (first | rw [World.size_alloc] at hz7 | rw [World.size_setCell] at hz7 | rw [World.size_drew] at hz7)))
  have r1 := q1.below hb7
  clear q0 q1 g2
  go_wp2_with fail
  (refine (heldGaussS _ _ L' _ r1 (by omega) hm2).mono ?_; rintro e w8 ⟨rfl, hb8⟩; have hz8 := hb8.size; (repeat (first | rw [World.size_alloc] at hz8 | rw [World.size_setCell] at hz8 | rw [World.size_drew] at hz8)))
  rw [hn']
  go_wp2_with fail
  go_returns
  refine ⟨rfl, ?_⟩
  have b4 : Below w.heap.size w w4 := ((hb1.trans (hb2.mono (by omega))).trans (hb3.mono (by omega))).trans hb4
  have := b4.size
  exact (((b4.trans (hb5.mono (by omega))).trans (hb6.mono (by omega))).trans (hb7.mono (by omega))).trans (hb8.mono (by omega))
theorem c2_keep {K : Nat → Prop} {W W' : World} {b : Nat} {x y : Value} (hk : Keep K W W') (hb : K b) (h : C2 W b x y) : C2 W' b x y := ⟨hk.cell hb h.c0, hk.cell hb h.c1⟩
set_option maxHeartbeats 4000000 in
theorem walkFnExactDivisorsOf (a b : Int) (w : World) (_w0 : (Lit.int .i64 a).wf = true) (_w1 : (Lit.int .i64 b).wf = true) :
    Calls Try.prog 11 #[.agg #[.int .i64 a, .int .i64 b]] w fun e w' => e = .returned (.bool true) ∧ Below w.heap.size w w' := by
  clear _w0 _w1
  have hl := dvL_len a b
  obtain ⟨L, hL⟩ : ∃ L, dvL a b = L := ⟨_, rfl⟩
  have hS : ∀ W, Calls Try.prog 33 #[.agg #[.int .i64 a, .int .i64 b]] W fun e w' => ∃ v, e = .returned v ∧ GS w' W.heap.size v L ∧ Below W.heap.size W w' := fun W => by rw [← hL]; exact sDivisorsOf a b W
  have hI : ∀ W, Calls Try.prog 21 #[.agg #[.int .i64 a, .int .i64 b]] W fun e w' => ∃ v, e = .returned v ∧ GS w' W.heap.size v L ∧ Below W.heap.size W w' := fun W => by rw [← hL]; exact iDivisorsOf a b W
  rw [hL] at hl
  clear hL
  obtain ⟨n, hn⟩ : ∃ n, L.length = n := ⟨_, rfl⟩
  go_enter Try.func11, Try.ntmps11
  go_wp2_with fail
  (refine (toGauss a b _).mono ?_; rintro e w11 ⟨rfl, hb11⟩; have hz11 := hb11.size; (repeat (first | rw [World.size_alloc] at hz11 | rw [World.size_setCell] at hz11 | rw [World.size_drew] at hz11)); have pp := C2.K hb11 (b := w.heap.size) (x := _) (y := _) (by (repeat (first | ((with_reducible apply C2.mk) <;> (with_reducible assumption)) | (with_reducible apply C2.Z) | (with_reducible apply C2.O) | ((with_reducible apply C2.B); (focus (simp; done))) | (with_reducible apply C2.A) | (with_reducible apply C2.D) | ((with_reducible apply C2.S); focus ((repeat (first | rw [World.size_alloc] | rw [World.size_setCell] | rw [World.size_drew])); omega)) | ((with_reducible apply C2.K); (focus (with_reducible assumption)))))); obtain ⟨kk1, kk2⟩ := pp)
  go_wp2_with fail
  (refine (hS _).mono ?_; rintro e w1 ⟨v0, rfl, g0, hb1⟩; have hz1 := hb1.size; (repeat (first | rw [World.size_alloc] at hz1 | rw [World.size_setCell] at hz1 | rw [World.size_drew] at hz1)); have pp := C2.K hb1 (b := w.heap.size) (x := _) (y := _) (by (repeat (first | ((with_reducible apply C2.mk) <;> (with_reducible assumption)) | (with_reducible apply C2.Z) | (with_reducible apply C2.O) | ((with_reducible apply C2.B); (focus (simp; done))) | (with_reducible apply C2.A) | (with_reducible apply C2.D) | ((with_reducible apply C2.S); focus ((repeat (first | rw [World.size_alloc] | rw [World.size_setCell] | rw [World.size_drew])); omega)) | ((with_reducible apply C2.K); (focus (with_reducible assumption)))))); obtain ⟨kk3, kk4⟩ := pp; (try clear kk1 kk2))
  go_wp2_with fail
  have B1 : Below w.heap.size w w1 := by (repeat' (first | (with_reducible exact Below.refl _ _) | (with_reducible refine Below.alloc ?_ ?_ _) | (with_reducible refine Below.drew ?_) | (with_reducible refine Below.setCell ?_ ?_ _) | (with_reducible refine Below.trans ?_ (Below.mono (by assumption) ?_)) | go_size))
  (refine (toGauss a b _).mono ?_; rintro e w12 ⟨rfl, hb12⟩; have hz12 := hb12.size; (repeat (first | rw [World.size_alloc] at hz12 | rw [World.size_setCell] at hz12 | rw [World.size_drew] at hz12)); have pp := C2.K hb12 (b := w.heap.size) (x := _) (y := _) (by (repeat (first | ((with_reducible apply C2.mk) <;> (with_reducible assumption)) | (with_reducible apply C2.Z) | (with_reducible apply C2.O) | ((with_reducible apply C2.B); (focus (simp; done))) | (with_reducible apply C2.A) | (with_reducible apply C2.D) | ((with_reducible apply C2.S); focus ((repeat (first | rw [World.size_alloc] | rw [World.size_setCell] | rw [World.size_drew])); omega)) | ((with_reducible apply C2.K); (focus (with_reducible assumption)))))); obtain ⟨kk5, kk6⟩ := pp; (try clear kk3 kk4))
  have g0' := g0.below hb12
  go_wp2_with fail
  (refine (hI _).mono ?_; rintro e w2 ⟨v1, rfl, g1, hb2⟩; have hz2 := hb2.size; (repeat (first | rw [World.size_alloc] at hz2 | rw [World.size_setCell] at hz2 | rw [World.size_drew] at hz2)); have pp := C2.K hb2 (b := w.heap.size) (x := _) (y := _) (by (repeat (first | ((with_reducible apply C2.mk) <;> (with_reducible assumption)) | (with_reducible apply C2.Z) | (with_reducible apply C2.O) | ((with_reducible apply C2.B); (focus (simp; done))) | (with_reducible apply C2.A) | (with_reducible apply C2.D) | ((with_reducible apply C2.S); focus ((repeat (first | rw [World.size_alloc] | rw [World.size_setCell] | rw [World.size_drew])); omega)) | ((with_reducible apply C2.K); (focus (with_reducible assumption)))))); obtain ⟨kk7, kk8⟩ := pp; (try clear kk5 kk6))
  have k0 := g0'.below hb2
  have hap := k0.apart g1 (fun g h => (g0'.lt g h).2)
  clear g0 g0'
  have B2 : Below w.heap.size w w2 := by (repeat' (first | (with_reducible exact Below.refl _ _) | (with_reducible refine Below.alloc ?_ ?_ _) | (with_reducible refine Below.drew ?_) | (with_reducible refine Below.setCell ?_ ?_ _) | (with_reducible refine Below.trans ?_ (Below.mono (by assumption) ?_)) | go_size))
  go_wp2_with fail
  (refine (eqGaussS _ _ _ _ L _ g1 k0 (by omega)).mono ?_; rintro e w3 ⟨rfl, hb3⟩; have hz3 := hb3.size; (repeat (first | rw [World.size_alloc] at hz3 | rw [World.size_setCell] at hz3 | rw [World.size_drew] at hz3)); have pp := C2.K hb3 (b := w.heap.size) (x := _) (y := _) (by (repeat (first | ((with_reducible apply C2.mk) <;> (with_reducible assumption)) | (with_reducible apply C2.Z) | (with_reducible apply C2.O) | ((with_reducible apply C2.B); (focus (simp; done))) | (with_reducible apply C2.A) | (with_reducible apply C2.D) | ((with_reducible apply C2.S); focus ((repeat (first | rw [World.size_alloc] | rw [World.size_setCell] | rw [World.size_drew])); omega)) | ((with_reducible apply C2.K); (focus (with_reducible assumption)))))); obtain ⟨kk9, kk10⟩ := pp; (try clear kk7 kk8))
  have m0 := k0.below hb3
  have m1 := g1.below hb3
  have B3 : Below w.heap.size w w3 := B2.trans (hb3.mono B2.size)
  have cX : C2 w3 w.heap.size (.int .i64 a) (.int .i64 b) := by (repeat (first | ((with_reducible apply C2.mk) <;> (with_reducible assumption)) | (with_reducible apply C2.Z) | (with_reducible apply C2.O) | ((with_reducible apply C2.B); (focus (simp; done))) | (with_reducible apply C2.A) | (with_reducible apply C2.D) | ((with_reducible apply C2.S); focus ((repeat (first | rw [World.size_alloc] | rw [World.size_setCell] | rw [World.size_drew])); omega)) | ((with_reducible apply C2.K); (focus (with_reducible assumption)))))
  clear k0 g1
  go_wp2_with fail
  refine (markGaussS _ _ L _ m1 (by omega)).mono ?_
  rintro e w4 ⟨rfl, ⟨L', hn', hm', m1'⟩, hk4⟩
  have n0 := m0.kept hk4 hap
  have hXv : v1.ownBlock ≠ some w.heap.size := fun e => by
    have := (m1.lt _ e).1
    omega
  have cX4 := c2_keep hk4 hXv cX
  have B4 : Below w.heap.size w w4 := B3.trans (hk4.below (fun x hx e => by have := (m1.lt x e).1; omega) B3.size)
  clear m0 m1 hk4 cX
  obtain ⟨x0, x1⟩ := cX4
  rw [hn] at hm' hn' ⊢
  have hm2 : Mk 1 L'.length L' := by rw [hn']; exact hm'
  go_wp2_with fail
  (refine (heldGaussS _ _ L' _ m1' (by omega) hm2).mono ?_; rintro e w5 ⟨rfl, hb5⟩; have hz5 := hb5.size; (repeat (first | rw [World.size_alloc] at hz5 | rw [World.size_setCell] at hz5 | rw [World.size_drew] at hz5)); have pp := C2.K hb5 (b := w.heap.size) (x := _) (y := _) (by (repeat (first | ((with_reducible apply C2.mk) <;> (with_reducible assumption)) | (with_reducible apply C2.Z) | (with_reducible apply C2.O) | ((with_reducible apply C2.B); (focus (simp; done))) | (with_reducible apply C2.A) | (with_reducible apply C2.D) | ((with_reducible apply C2.S); focus ((repeat (first | rw [World.size_alloc] | rw [World.size_setCell] | rw [World.size_drew])); omega)) | ((with_reducible apply C2.K); (focus (with_reducible assumption)))))); obtain ⟨kk11, kk12⟩ := pp; (try clear kk9 kk10))
  have p0 := n0.below hb5
  have p1 := m1'.below hb5
  have B5 : Below w.heap.size w w5 := B4.trans (hb5.mono B4.size)
  clear n0 m1' x0 x1
  rw [hn']
  go_wp2_with fail
  (refine (toGauss a b _).mono ?_; rintro e w16 ⟨rfl, hb16⟩; have hz16 := hb16.size; (repeat (first | rw [World.size_alloc] at hz16 | rw [World.size_setCell] at hz16 | rw [World.size_drew] at hz16)); have pp := C2.K hb16 (b := w.heap.size) (x := _) (y := _) (by (repeat (first | ((with_reducible apply C2.mk) <;> (with_reducible assumption)) | (with_reducible apply C2.Z) | (with_reducible apply C2.O) | ((with_reducible apply C2.B); (focus (simp; done))) | (with_reducible apply C2.A) | (with_reducible apply C2.D) | ((with_reducible apply C2.S); focus ((repeat (first | rw [World.size_alloc] | rw [World.size_setCell] | rw [World.size_drew])); omega)) | ((with_reducible apply C2.K); (focus (with_reducible assumption)))))); obtain ⟨kk13, kk14⟩ := pp; (try clear kk11 kk12))
  have p0' := p0.below hb16
  have p1' := p1.below hb16
  go_wp2_with fail
  (refine (hI _).mono ?_; rintro e w6 ⟨v2, rfl, g2, hb6⟩; have hz6 := hb6.size; (repeat (first | rw [World.size_alloc] at hz6 | rw [World.size_setCell] at hz6 | rw [World.size_drew] at hz6)); have pp := C2.K hb6 (b := w.heap.size) (x := _) (y := _) (by (repeat (first | ((with_reducible apply C2.mk) <;> (with_reducible assumption)) | (with_reducible apply C2.Z) | (with_reducible apply C2.O) | ((with_reducible apply C2.B); (focus (simp; done))) | (with_reducible apply C2.A) | (with_reducible apply C2.D) | ((with_reducible apply C2.S); focus ((repeat (first | rw [World.size_alloc] | rw [World.size_setCell] | rw [World.size_drew])); omega)) | ((with_reducible apply C2.K); (focus (with_reducible assumption)))))); obtain ⟨kk15, kk16⟩ := pp; (try clear kk13 kk14))
  have q0 := p0'.below hb6
  have q1 := p1'.below hb6
  have B6 : Below w.heap.size w w6 := (B5.trans (hb16.mono B5.size)).trans (hb6.mono (by have := B5.size; have := hb16.size; omega))
  clear p0 p1 p0' p1'
  go_wp2_with fail
  (refine (eqGaussS _ _ _ _ L _ g2 q0 (by omega)).mono ?_; rintro e w7 ⟨rfl, hb7⟩; have hz7 := hb7.size; (repeat (first | rw [World.size_alloc] at hz7 | rw [World.size_setCell] at hz7 | rw [World.size_drew] at hz7)); have pp := C2.K hb7 (b := w.heap.size) (x := _) (y := _) (by (repeat (first | ((with_reducible apply C2.mk) <;> (with_reducible assumption)) | (with_reducible apply C2.Z) | (with_reducible apply C2.O) | ((with_reducible apply C2.B); (focus (simp; done))) | (with_reducible apply C2.A) | (with_reducible apply C2.D) | ((with_reducible apply C2.S); focus ((repeat (first | rw [World.size_alloc] | rw [World.size_setCell] | rw [World.size_drew])); omega)) | ((with_reducible apply C2.K); (focus (with_reducible assumption)))))); obtain ⟨kk17, kk18⟩ := pp; (try clear kk15 kk16))
  have r1 := q1.below hb7
  have B7 : Below w.heap.size w w7 := B6.trans (hb7.mono B6.size)
  clear q0 q1 g2
  go_wp2_with fail
  (refine (heldGaussS _ _ L' _ r1 (by omega) hm2).mono ?_; rintro e w8 ⟨rfl, hb8⟩; have hz8 := hb8.size; (repeat (first | rw [World.size_alloc] at hz8 | rw [World.size_setCell] at hz8 | rw [World.size_drew] at hz8)); (try clear kk17 kk18))
  rw [hn']
  go_wp2_with fail
  go_returns
  exact ⟨rfl, B7.trans (hb8.mono B7.size)⟩
end Go.Proofs.Ytpjememmogaeiaa
