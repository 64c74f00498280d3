import Derived.Test.YtahnkecdningnaaYj
import Derived.Test.YtahnkecdningnaaHs
import Derived.Test.YtahnkecdningnaaL
import Derived.BigRegion
namespace Go.Proofs.Ytahnkecdningnaa
open Go Go.RowKit
attribute [local go_sem] World.cell?_alloc_some cell?_alloc2_some cell?_alloc3_some cell?_alloc4_some frozen?_alloc_some frozen?_alloc2_some frozen?_alloc3_some World.cell?_setCell_far new_ne0 new_ne1 new_ne2 new_ne3 lt2 lt3 lt4 lt5 lt6 lt7 lt8 lt9
attribute [local go_sem ↓] eqG neG

/-- The cells of a list in memory. -/
def At (W : World) (g : Nat) (l : List (Int × Int)) : Prop := ∀ j x y, l[j]? = some (x, y) → W.cell? ⟨g, j * 2, none⟩ = some (.int .i64 x) ∧ W.cell? ⟨g, j * 2 + 1, none⟩ = some (.int .i64 y)
theorem GS.at {W : World} {base : Nat} {v : Value} {l : List (Int × Int)} (h : GS W base v l) (hl : l ≠ []) : ∃ g cap, v = .slice (some ⟨g, 0, none⟩) l.length cap ∧ base ≤ g ∧ g < W.heap.size ∧ At W g l ∧ ∀ i, W.frozen? ⟨g, i, none⟩ = false := by
  have hp : 0 < l.length := List.length_pos_iff.2 hl
  obtain ⟨g, cap, rfl, h1, h2⟩ := World.ownsRow.form h hp
  refine ⟨g, cap, rfl, h1, h2, fun j x y hj => ?_, fun i => World.ownsRow.frozenAt h i⟩
  have hlt : j < l.length := (List.getElem?_eq_some_iff.1 hj).1
  obtain ⟨e0, e1⟩ := gCells_at l j x y hj
  constructor
  · rw [World.ownsRow.cellAt h (j * 2) (by omega), Nat.mul_comm]; exact e0
  · rw [World.ownsRow.cellAt h (j * 2 + 1) (by omega), Nat.mul_comm]; exact e1
theorem GS.len {W : World} {base : Nat} {v : Value} {l : List (Int × Int)} (h : GS W base v l) (hl : l = []) : ∃ a cap, v = .slice a 0 cap := by
  subst hl
  rcases h.2 with ⟨rfl, _⟩ | ⟨g, cap, cur, rfl, _⟩
  · exact ⟨_, _, rfl⟩
  · exact ⟨_, _, rfl⟩
/-- The value is a slice of as many as the list has. -/
theorem GS.form {W : World} {base : Nat} {v : Value} {l : List (Int × Int)} (h : GS W base v l) : ∃ a cap, v = .slice a l.length cap ∧ (l ≠ [] → ∃ g, a = some ⟨g, 0, none⟩ ∧ base ≤ g ∧ g < W.heap.size ∧ At W g l ∧ ∀ i, W.frozen? ⟨g, i, none⟩ = false) := by
  by_cases hl : l = []
  · obtain ⟨a, cap, rfl⟩ := h.len hl
    exact ⟨a, cap, by rw [hl]; rfl, fun h' => absurd hl h'⟩
  · obtain ⟨g, cap, rfl, h1, h2, h3, h4⟩ := h.at hl
    exact ⟨_, cap, rfl, fun _ => ⟨g, rfl, h1, h2, h3, h4⟩⟩

end Go.Proofs.Ytahnkecdningnaa

namespace Go.Proofs.Ytahnkecdningnaa
open Go Go.RowKit
attribute [local go_sem] World.cell?_alloc_some cell?_alloc2_some cell?_alloc3_some cell?_alloc4_some frozen?_alloc_some frozen?_alloc2_some frozen?_alloc3_some World.cell?_setCell_far new_ne0 new_ne1 new_ne2 new_ne3 lt2 lt3 lt4 lt5 lt6 lt7 lt8 lt9

theorem gCells_set (l : List (Int × Int)) : ∀ (i : Nat) (x y : Int), i < l.length → ((gCells l).set (i * 2) (.int .i64 x)).set (i * 2 + 1) (.int .i64 y) = gCells (l.set i (x, y)) := by
  induction l with
  | nil => intro i x y h; simp at h
  | cons p t ih =>
    intro i x y h
    cases i with
    | zero => simp [gCells]
    | succ i =>
      have := ih i x y (by simpa using h)
      rw [show (i + 1) * 2 = i * 2 + 1 + 1 by omega]
      simp [gCells, this]
/-- Two cells of the list written anew. -/
theorem GS.put {W : World} {base g cap : Nat} {l : List (Int × Int)} (h : GS W base (.slice (some ⟨g, 0, none⟩) l.length cap) l) (i : Nat) (hi : i < l.length) (x y : Int) :
    GS ((W.setCell ⟨g, i * 2, none⟩ (.int .i64 x)).setCell ⟨g, i * 2 + 1, none⟩ (.int .i64 y)) base (.slice (some ⟨g, 0, none⟩) l.length cap) (l.set i (x, y)) := by
  have h1 := (World.ownsRow.stored h (i * 2) (.int .i64 x)).1
  have h2 := (World.ownsRow.stored h1 (i * 2 + 1) (.int .i64 y)).1
  unfold GS
  rw [List.length_set, ← gCells_set l i x y hi]
  exact h2
/-- Marks in order from k on. -/
def Mk (k : Int) (n : Nat) (l : List (Int × Int)) : Prop := ∀ j, j < n → l[j]? = some (k + 2 * j, k + 2 * j + 1)
theorem Mk.next {k : Int} {n : Nat} {l : List (Int × Int)} (h : Mk k n l) (hn : n < l.length) : Mk k (n + 1) (l.set n (k + 2 * n, k + 2 * n + 1)) := fun j hj => by
  by_cases e : j = n
  · subst e; rw [List.getElem?_set_self hn]
  · rw [List.getElem?_set_ne (by omega)]; exact h j (by omega)

end Go.Proofs.Ytahnkecdningnaa

namespace Go.Proofs.Ytahnkecdningnaa
open Go Go.RowKit
attribute [local go_sem] World.cell?_alloc_some cell?_alloc2_some cell?_alloc3_some cell?_alloc4_some frozen?_alloc_some frozen?_alloc2_some frozen?_alloc3_some World.cell?_setCell_far new_ne0 new_ne1 new_ne2 new_ne3 lt2 lt3 lt4 lt5 lt6 lt7 lt8 lt9

/-- Two lists of which one was made behind the other lie apart. -/
theorem GS.apart {W : World} {base base' : Nat} {v v' : Value} {l l' : List (Int × Int)} (_h : GS W base v l) (h' : GS W base' v' l') (hb : ∀ g, v.ownBlock = some g → g < base') : ∀ g, v.ownBlock = some g → v'.ownBlock ≠ some g := fun g hg e => by
  have := hb g hg
  have := (h'.lt g e).1
  omega
theorem dvL_len (a b : Int) : (dvL a b).length ≤ 2025 := by
  by_cases h : nrm a b < 1 ∨ 2000 < nrm a b
  · rw [dvL_no h]; simp
  · exact (dvL_yes (a := a) (b := b) (by omega) (by omega)).2.2.2.2.2

theorem c2_keep {K : Nat → Prop} {W W' : World} {b : Nat} {x y : Value} (hk : Keep K W W') (hb : K b) (h : C2 W b x y) : C2 W' b x y := ⟨hk.cell hb h.c0, hk.cell hb h.c1⟩
end Go.Proofs.Ytahnkecdningnaa
