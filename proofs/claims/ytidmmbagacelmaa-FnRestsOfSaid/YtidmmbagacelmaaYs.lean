import Derived.Test.YtidmmbagacelmaaYj
import Derived.Test.YtidmmbagacelmaaHs
import Derived.Test.YtidmmbagacelmaaL
import Derived.BigRegion
namespace Go.Proofs.Ytidmmbagacelmaa
open Go Go.RowKit
attribute [local go_sem] World.cell?_alloc_some cell?_alloc2_some cell?_alloc3_some cell?_alloc4_some frozen?_alloc_some frozen?_alloc2_some frozen?_alloc3_some World.cell?_setCell_far new_ne0 new_ne1 new_ne2 new_ne3 lt2 lt3 lt4 lt5 lt6 lt7 lt8 lt9
attribute [local go_sem ↓] eqG neG

/-- The cells of a list in memory. -/
def At (W : World) (g : Nat) (l : List (Int × Int)) : Prop := ∀ j x y, l[j]? = some (x, y) → W.cell? ⟨g, j * 2, none⟩ = some (.int .i64 x) ∧ W.cell? ⟨g, j * 2 + 1, none⟩ = some (.int .i64 y)
theorem GS.at {W : World} {base : Nat} {v : Value} {l : List (Int × Int)} (h : GS W base v l) (hl : l ≠ []) : ∃ g cap, v = .slice (some ⟨g, 0, none⟩) l.length cap ∧ base ≤ g ∧ g < W.heap.size ∧ At W g l ∧ ∀ i, W.frozen? ⟨g, i, none⟩ = false := by
  have hp : 0 < l.length := List.length_pos_iff.2 hl
  obtain ⟨g, cap, rfl, h1, h2⟩ := World.ownsRow.form h hp
  refine ⟨g, cap, rfl, h1, h2, fun j x y hj => ?_, fun i => World.ownsRow.frozenAt h i⟩
  have hlt : j < l.length := (List.getElem?_eq_some_iff.1 hj).1
  obtain ⟨e0, e1⟩ := gCells_at l j x y hj
  constructor
  · rw [World.ownsRow.cellAt h (j * 2) (by omega), Nat.mul_comm]; exact e0
  · rw [World.ownsRow.cellAt h (j * 2 + 1) (by omega), Nat.mul_comm]; exact e1
theorem GS.len {W : World} {base : Nat} {v : Value} {l : List (Int × Int)} (h : GS W base v l) (hl : l = []) : ∃ a cap, v = .slice a 0 cap := by
  subst hl
  rcases h.2 with ⟨rfl, _⟩ | ⟨g, cap, cur, rfl, _⟩
  · exact ⟨_, _, rfl⟩
  · exact ⟨_, _, rfl⟩
/-- The value is a slice of as many as the list has. -/
theorem GS.form {W : World} {base : Nat} {v : Value} {l : List (Int × Int)} (h : GS W base v l) : ∃ a cap, v = .slice a l.length cap ∧ (l ≠ [] → ∃ g, a = some ⟨g, 0, none⟩ ∧ base ≤ g ∧ g < W.heap.size ∧ At W g l ∧ ∀ i, W.frozen? ⟨g, i, none⟩ = false) := by
  by_cases hl : l = []
  · obtain ⟨a, cap, rfl⟩ := h.len hl
    exact ⟨a, cap, by rw [hl]; rfl, fun h' => absurd hl h'⟩
  · obtain ⟨g, cap, rfl, h1, h2, h3, h4⟩ := h.at hl
    exact ⟨_, cap, rfl, fun _ => ⟨g, rfl, h1, h2, h3, h4⟩⟩

set_option maxHeartbeats 2000000 in
theorem sameGauss (v v' : Value) (b b' : Nat) (l : List (Int × Int)) (w : World) (h : GS w b v l) (h' : GS w b' v' l) (hl : l.length ≤ 1000000) :
    Calls Try.prog 32 #[v, v'] w fun e w' => e = .returned (.bool true) ∧ Below w.heap.size w w' := by
  obtain ⟨a, cap, rfl, ha⟩ := h.form
  obtain ⟨a', cap', rfl, ha'⟩ := h'.form
  clear h h'
  go_enter Try.func32, Try.ntmps32
  go_wp2_with fail
  go_loopw [5] (fun u wr => ∃ k : Nat, u = .int .i64 (k : Int) ∧ k ≤ l.length ∧ Below w.heap.size w wr) (fun u _ => l.length - (intOf u).toNat)
  case atStart => exact ⟨0, rfl, Nat.zero_le _, by (repeat' (first | (with_reducible exact Below.refl _ _) | (with_reducible refine Below.alloc ?_ ?_ _) | (with_reducible refine Below.drew ?_) | (with_reducible refine Below.setCell ?_ ?_ _) | (with_reducible refine Below.trans ?_ (Below.mono (by assumption) ?_)) | go_size))⟩
  case round =>
    obtain ⟨k, rfl, hk, hb⟩ := hrel
    by_cases hlt : k < l.length
    · have hd : decide ((k : Int) < (l.length : Int)) = true := decide_eq_true (by omega)
      obtain ⟨⟨x, y⟩, hxy⟩ : ∃ q, l[k]? = some q := ⟨_, List.getElem?_eq_getElem hlt⟩
      have hne : l ≠ [] := by rintro rfl; simp at hlt
      obtain ⟨g, rfl, -, -, hA, -⟩ := ha hne
      obtain ⟨g', rfl, -, -, hA', -⟩ := ha' hne
      obtain ⟨c0, c1⟩ := hA k x y hxy
      obtain ⟨c2, c3⟩ := hA' k x y hxy
      have d0 := keep hb c0
      have d1 := keep hb c1
      have d2 := keep hb c2
      have d3 := keep hb c3
      clear c0 c1 c2 c3 hA hA' ha ha'
      go_wp2_with fail
      go_region
      all_goals go_wp2_with fail
      all_goals go_roundw
      all_goals first | exact ⟨k + 1, by simp, by omega, hb.drew⟩ | (simp [intOf]; omega)
    · have hd : decide ((k : Int) < (l.length : Int)) = false := decide_eq_false (by omega)
      go_wp2_with fail
      go_returns
      exact ⟨rfl, hb⟩
set_option maxHeartbeats 2000000 in
theorem eqGaussS (v v' : Value) (b b' : Nat) (l : List (Int × Int)) (w : World) (h : GS w b v l) (h' : GS w b' v' l) (hl : l.length ≤ 1000000) :
    Calls Try.prog 44 #[v, v'] w fun e w' => e = .returned (.bool true) ∧ Below w.heap.size w w' := by
  obtain ⟨a, cap, rfl, ha⟩ := h.form
  obtain ⟨a', cap', rfl, ha'⟩ := h'.form
  clear h h'
  go_enter Try.func44, Try.ntmps44
  go_wp2_with fail
  go_loopw [5] (fun u wr => ∃ k : Nat, u = .int .i64 (k : Int) ∧ k ≤ l.length ∧ Below w.heap.size w wr) (fun u _ => l.length - (intOf u).toNat)
  case atStart => exact ⟨0, rfl, Nat.zero_le _, by (repeat' (first | (with_reducible exact Below.refl _ _) | (with_reducible refine Below.alloc ?_ ?_ _) | (with_reducible refine Below.drew ?_) | (with_reducible refine Below.setCell ?_ ?_ _) | (with_reducible refine Below.trans ?_ (Below.mono (by assumption) ?_)) | go_size))⟩
  case round =>
    obtain ⟨k, rfl, hk, hb⟩ := hrel
    by_cases hlt : k < l.length
    · have hd : decide ((k : Int) < (l.length : Int)) = true := decide_eq_true (by omega)
      obtain ⟨⟨x, y⟩, hxy⟩ : ∃ q, l[k]? = some q := ⟨_, List.getElem?_eq_getElem hlt⟩
      have hne : l ≠ [] := by rintro rfl; simp at hlt
      obtain ⟨g, rfl, -, hg, hA, -⟩ := ha hne
      obtain ⟨g', rfl, -, hg', hA', -⟩ := ha' hne
      obtain ⟨c0, c1⟩ := hA k x y hxy
      obtain ⟨c2, c3⟩ := hA' k x y hxy
      have d0 := keep hb c0
      have d1 := keep hb c1
      have d2 := keep hb c2
      have d3 := keep hb c3
      clear c0 c1 c2 c3 hA hA' ha ha'
      go_wp2_with fail
      refine wp_name ?_
      intro w6 hb6
      have e0 := keep hb6 d0
      have e1 := keep hb6 d1
      have e2 := keep hb6 d2
      have e3 := keep hb6 d3
      have r0 := cell_regrown e0
      have r1 := cell_regrown e1
      have r2 := cell_regrown e2
      have r3 := cell_regrown e3
      clear d0 d1 d2 d3
      refine wp_region_quiet_below (by kernel_rfl) (by kernel_rfl) ?_
      (repeat (first | go_big_quiet_step ((first | (go_at_call 43; exact Calls.regrown_of (eqGauss_t _ _ _)))) | quiet_step ((first | (go_at_call 43; exact Calls.regrown_of (eqGauss_t _ _ _))))))
      refine wpQuiet_nil ?_
      intro w7 hw
      have hb7 := below_of_regrown hw
      clear hw
      go_wp2_with fail
      go_roundw
      case rel => exact ⟨k + 1, by simp, by omega, (hb.trans (hb6.mono hb.size)).trans (hb7.mono (by have := hb.size; have := hb6.size; omega))⟩
      case measure => simp [intOf]; omega
    · have hd : decide ((k : Int) < (l.length : Int)) = false := decide_eq_false (by omega)
      go_wp2_with fail
      go_returns
      exact ⟨rfl, hb⟩
end Go.Proofs.Ytidmmbagacelmaa

namespace Go.Proofs.Ytidmmbagacelmaa
open Go Go.RowKit
attribute [local go_sem] World.cell?_alloc_some cell?_alloc2_some cell?_alloc3_some cell?_alloc4_some frozen?_alloc_some frozen?_alloc2_some frozen?_alloc3_some World.cell?_setCell_far new_ne0 new_ne1 new_ne2 new_ne3 lt2 lt3 lt4 lt5 lt6 lt7 lt8 lt9

theorem gCells_set (l : List (Int × Int)) : ∀ (i : Nat) (x y : Int), i < l.length → ((gCells l).set (i * 2) (.int .i64 x)).set (i * 2 + 1) (.int .i64 y) = gCells (l.set i (x, y)) := by
  induction l with
  | nil => intro i x y h; simp at h
  | cons p t ih =>
    intro i x y h
    cases i with
    | zero => simp [gCells]
    | succ i =>
      have := ih i x y (by simpa using h)
      rw [show (i + 1) * 2 = i * 2 + 1 + 1 by omega]
      simp [gCells, this]
/-- Two cells of the list written anew. -/
theorem GS.put {W : World} {base g cap : Nat} {l : List (Int × Int)} (h : GS W base (.slice (some ⟨g, 0, none⟩) l.length cap) l) (i : Nat) (hi : i < l.length) (x y : Int) :
    GS ((W.setCell ⟨g, i * 2, none⟩ (.int .i64 x)).setCell ⟨g, i * 2 + 1, none⟩ (.int .i64 y)) base (.slice (some ⟨g, 0, none⟩) l.length cap) (l.set i (x, y)) := by
  have h1 := (World.ownsRow.stored h (i * 2) (.int .i64 x)).1
  have h2 := (World.ownsRow.stored h1 (i * 2 + 1) (.int .i64 y)).1
  unfold GS
  rw [List.length_set, ← gCells_set l i x y hi]
  exact h2
/-- Marks in order from k on. -/
def Mk (k : Int) (n : Nat) (l : List (Int × Int)) : Prop := ∀ j, j < n → l[j]? = some (k + 2 * j, k + 2 * j + 1)
theorem Mk.next {k : Int} {n : Nat} {l : List (Int × Int)} (h : Mk k n l) (hn : n < l.length) : Mk k (n + 1) (l.set n (k + 2 * n, k + 2 * n + 1)) := fun j hj => by
  by_cases e : j = n
  · subst e; rw [List.getElem?_set_self hn]
  · rw [List.getElem?_set_ne (by omega)]; exact h j (by omega)

set_option maxHeartbeats 2000000 in
theorem markGaussS (v : Value) (b : Nat) (l : List (Int × Int)) (w : World) (h : GS w b v l) (hl : l.length ≤ 1000000) :
    Calls Try.prog 45 #[v, .int .i64 1] w fun e w' => e = .returned (.int .i64 (1 + 2 * (l.length : Int))) ∧ (∃ l', l'.length = l.length ∧ Mk 1 l.length l' ∧ GS w' b v l') ∧ Keep (fun x => v.ownBlock ≠ some x) w w' := by
  obtain ⟨n, hn⟩ : ∃ n, l.length = n := ⟨_, rfl⟩
  rw [hn] at hl ⊢
  obtain ⟨a, cap, rfl⟩ : ∃ a cap, v = .slice a n cap := by obtain ⟨a, cap, e, -⟩ := h.form; exact ⟨a, cap, by rw [e, hn]⟩
  go_enter Try.func45, Try.ntmps45
  go_wp2_with fail
  go_loopw [1, 5] (fun q u wr => ∃ (k : Nat) (l' : List (Int × Int)), u = .int .i64 (k : Int) ∧ q = .int .i64 (1 + 2 * (k : Int)) ∧ k ≤ n ∧ l'.length = n ∧ Mk 1 k l' ∧ GS wr b (.slice a n cap) l' ∧ Keep (fun x => (Value.slice a n cap).ownBlock ≠ some x) w wr) (fun _ u _ => n - (intOf u).toNat)
  case atStart => exact ⟨0, l, rfl, rfl, Nat.zero_le _, hn, fun j hj => by omega, h, Keep.refl _ _⟩
  case round =>
    clear h hn
    obtain ⟨k, l', rfl, rfl, hk, hn, hm, hg, hkeep⟩ := hrel
    by_cases hlt : k < n
    · have hd : decide ((k : Int) < (n : Int)) = true := decide_eq_true (by omega)
      have hne : l' ≠ [] := by rintro rfl; simp at hn; omega
      obtain ⟨g, cap', e, hbg, hgl, hA, hfz⟩ := hg.at hne
      rw [hn] at e
      injection e with e1 e2 e3
      subst e1 e3
      obtain ⟨⟨x, y⟩, hxy⟩ : ∃ q, l'[k]? = some q := ⟨_, List.getElem?_eq_getElem (by omega)⟩
      obtain ⟨c0, c1⟩ := hA k x y hxy
      have f0 := hfz (k * 2)
      have f1 := hfz (k * 2 + 1)
      have hp := GS.put (cap := cap) (hn ▸ hg) k (by omega) (1 + 2 * (k : Int)) (1 + 2 * (k : Int) + 1)
      rw [hn] at hp
      have hm' := hm.next (by omega)
      clear hA hfz hxy hm
      go_wp2_with fail
      go_roundw
      case rel =>
        refine ⟨k + 1, _, by simp, by simp; omega, by omega, by rw [List.length_set]; exact hn, hm', hp, (hkeep.setCell ?_ _).setCell ?_ _⟩
        · simp [Value.ownBlock]
        · simp [Value.ownBlock]
      case measure => simp [intOf]; omega
    · have hd : decide ((k : Int) < (n : Int)) = false := decide_eq_false (by omega)
      obtain rfl : k = n := by omega
      go_wp2_with fail
      go_returns
      exact ⟨rfl, ⟨l', hn, hm, hg⟩, hkeep⟩
set_option maxHeartbeats 2000000 in
theorem heldGaussS (v : Value) (b : Nat) (l : List (Int × Int)) (w : World) (h : GS w b v l) (hl : l.length ≤ 1000000) (hm : Mk 1 l.length l) :
    Calls Try.prog 46 #[v, .int .i64 1] w fun e w' => e = .returned (.int .i64 (1 + 2 * (l.length : Int))) ∧ Below w.heap.size w w' := by
  obtain ⟨a, cap, rfl, ha⟩ := h.form
  clear h
  obtain ⟨n, hn⟩ : ∃ n, l.length = n := ⟨_, rfl⟩
  rw [hn] at hl hm ⊢
  go_enter Try.func46, Try.ntmps46
  go_wp2_with fail
  go_loopw [1, 5] (fun q u wr => ∃ k : Nat, u = .int .i64 (k : Int) ∧ q = .int .i64 (1 + 2 * (k : Int)) ∧ k ≤ n ∧ w = wr) (fun _ u _ => n - (intOf u).toNat)
  case atStart => exact ⟨0, rfl, rfl, Nat.zero_le _, rfl⟩
  case round =>
    obtain ⟨k, rfl, rfl, hk, rfl⟩ := hrel
    by_cases hlt : k < n
    · have hd : decide ((k : Int) < (n : Int)) = true := decide_eq_true (by omega)
      have hne : l ≠ [] := by rintro rfl; simp at hn; omega
      obtain ⟨g, rfl, -, hg, hA, -⟩ := ha hne
      obtain ⟨c0, c1⟩ := hA k _ _ (hm k hlt)
      clear hA ha hm
      go_wp2_with fail
      go_roundw
      case rel => exact ⟨k + 1, by simp, by simp; omega, by omega, by simp⟩
      case measure => simp [intOf]; omega
    · have hd : decide ((k : Int) < (n : Int)) = false := decide_eq_false (by omega)
      obtain rfl : k = n := by omega
      go_wp2_with fail
      go_returns
      exact ⟨rfl, by (repeat' (first | (with_reducible exact Below.refl _ _) | (with_reducible refine Below.alloc ?_ ?_ _) | (with_reducible refine Below.drew ?_) | (with_reducible refine Below.setCell ?_ ?_ _) | (with_reducible refine Below.trans ?_ (Below.mono (by assumption) ?_)) | go_size))⟩
end Go.Proofs.Ytidmmbagacelmaa

namespace Go.Proofs.Ytidmmbagacelmaa
open Go Go.RowKit
attribute [local go_sem] World.cell?_alloc_some cell?_alloc2_some cell?_alloc3_some cell?_alloc4_some frozen?_alloc_some frozen?_alloc2_some frozen?_alloc3_some World.cell?_setCell_far new_ne0 new_ne1 new_ne2 new_ne3 lt2 lt3 lt4 lt5 lt6 lt7 lt8 lt9

/-- Two lists of which one was made behind the other lie apart. -/
theorem GS.apart {W : World} {base base' : Nat} {v v' : Value} {l l' : List (Int × Int)} (_h : GS W base v l) (h' : GS W base' v' l') (hb : ∀ g, v.ownBlock = some g → g < base') : ∀ g, v.ownBlock = some g → v'.ownBlock ≠ some g := fun g hg e => by
  have := hb g hg
  have := (h'.lt g e).1
  omega
theorem dvL_len (a b : Int) : (dvL a b).length ≤ 2025 := by
  by_cases h : nrm a b < 1 ∨ 2000 < nrm a b
  · rw [dvL_no h]; simp
  · exact (dvL_yes (a := a) (b := b) (by omega) (by omega)).2.2.2.2.2

theorem c2_keep {K : Nat → Prop} {W W' : World} {b : Nat} {x y : Value} (hk : Keep K W W') (hb : K b) (h : C2 W b x y) : C2 W' b x y := ⟨hk.cell hb h.c0, hk.cell hb h.c1⟩
end Go.Proofs.Ytidmmbagacelmaa
