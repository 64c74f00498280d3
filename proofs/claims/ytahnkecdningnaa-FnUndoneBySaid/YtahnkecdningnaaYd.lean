import Derived.Test.YtahnkecdningnaaProg
import Derived.Test.YtahnkecdningnaaYa
import Derived.Test.YtahnkecdningnaaYb
import Derived.Test.YtahnkecdningnaaOb
import Derived.RangeFuncNested
import Derived.Shelf.RegionOpen
import Derived.OwnWalkIn
import Derived.TacticsInMore
import Derived.Test.YtahnkecdningnaaOc
import Derived.Test.YtahnkecdningnaaJp
import Derived.Test.YtahnkecdningnaaMa
import Derived.Test.YtahnkecdningnaaJq
namespace Go.Proofs.Ytahnkecdningnaa
open Go Go.RowKit Go.Shelf
attribute [local go_sem] World.cell?_alloc_some cell?_alloc2_some cell?_alloc3_some cell?_alloc4_some frozen?_alloc_some frozen?_alloc2_some frozen?_alloc3_some World.cell?_setCell_far new_ne0 new_ne1 new_ne2 new_ne3 lt2 lt3 lt4 lt5 lt6 lt7 lt8 lt9
attribute [local go_sem] Oper.semAt_some

/-- A block of 1415 flags. -/
def Arr (W : World) (X : Nat) (f : Nat → Bool) : Prop := ∃ cs t, W.heap[X]? = some (.cells cs t (0, 0)) ∧ cs.size = 1415 ∧ ∀ i, i ≤ 1414 → cs[i]? = some (.bool (f i))
theorem Arr.cell {W : World} {X : Nat} {f : Nat → Bool} (h : Arr W X f) {i : Nat} (hi : i ≤ 1414) : W.cell? ⟨X, i, none⟩ = some (.bool (f i)) := by
  obtain ⟨cs, t, hb, -, hc⟩ := h
  rw [cell_of_row W X i cs t (0, 0) hb]; exact hc i hi
theorem Arr.frozen {W : World} {X : Nat} {f : Nat → Bool} (h : Arr W X f) (i : Nat) : W.frozen? ⟨X, i, none⟩ = false := by
  obtain ⟨cs, t, hb, -, hc⟩ := h
  exact frozen_of_row W X i cs t hb
theorem Arr.set {W : World} {X : Nat} {f : Nat → Bool} (h : Arr W X f) (m : Nat) (hm : m ≤ 1414) : Arr (W.setCell ⟨X, m, none⟩ (.bool true)) X (fun i => if i = m then true else f i) := by
  obtain ⟨cs, t, hb, hs, hc⟩ := h
  refine ⟨cs.setIfInBounds m (.bool true), t, heap_setCell_same W X m cs t _ hb, by simpa using hs, fun i hi => ?_⟩
  by_cases e : i = m
  · subst e; rw [Array.getElem?_setIfInBounds_self_of_lt (by omega)]; simp
  · rw [Array.getElem?_setIfInBounds_ne (by omega)]
    simp only [if_neg e]; exact hc i hi
theorem Arr.keep {K : Nat → Prop} {V W : World} {X : Nat} {f : Nat → Bool} (h : Arr V X f) (k : Keep K V W) (hX : K X) : Arr W X f := by
  obtain ⟨cs, t, hb, hs, hc⟩ := h
  exact ⟨cs, t, k.heap hX hb, hs, hc⟩
theorem Arr.lt {W : World} {X : Nat} {f : Nat → Bool} (h : Arr W X f) : X < W.heap.size := by
  obtain ⟨cs, t, hb, -⟩ := h
  exact (Array.getElem?_eq_some_iff.1 hb).1
/-- What holds between two rounds of the sieve. -/
def Sv (W : World) (J : Nat → (Nat → Prop) → World → Prop) (xs : List (Array Value)) (X : Nat) (v : Value) (wr : World) : Prop :=
  ∃ (i k p : Nat) (S : Nat → Prop) (f : Nat → Bool), v = .int .i64 (p : Int) ∧ 2 ≤ p ∧ p + k = 1415 ∧ i ≤ xs.length ∧ xs.drop i = prsFrom k p ∧ J i S wr ∧ Arr wr X f ∧ SvAt p f ∧ (∀ b, S b → W.heap.size ≤ b ∧ b < wr.heap.size) ∧ ¬ S X ∧ W.heap.size ≤ X ∧ W.heap.size ≤ wr.heap.size
/-- While multiples are crossed out. -/
def Sm (W : World) (J : Nat → (Nat → Prop) → World → Prop) (i p X : Nat) (S : Nat → Prop) (v : Value) (wr : World) : Prop :=
  ∃ (m : Nat) (f : Nat → Bool), v = .int .i64 (m : Int) ∧ p * p ≤ m ∧ (m : Int) % p = 0 ∧ J i S wr ∧ Arr wr X f ∧ SvIn p m f ∧ (∀ b, S b → W.heap.size ≤ b ∧ b < wr.heap.size) ∧ W.heap.size ≤ wr.heap.size

end Go.Proofs.Ytahnkecdningnaa

namespace Go.Proofs.Ytahnkecdningnaa
open Go Go.RowKit Go.Shelf
attribute [local go_sem] World.cell?_alloc_some cell?_alloc2_some cell?_alloc3_some cell?_alloc4_some frozen?_alloc_some frozen?_alloc2_some frozen?_alloc3_some World.cell?_setCell_far new_ne0 new_ne1 new_ne2 new_ne3 lt2 lt3 lt4 lt5 lt6 lt7 lt8 lt9
attribute [local go_sem] Oper.semAt_some

/-- Between two rounds of wholePrimeOk: no prime so far divides n. -/
def Wi (n₀ : World) (xs : List (Array Value)) (n : Int) (i : Nat) (_ : Nat → Prop) (W : World) : Prop := ∃ (k : Nat) (p : Int) (r : Value), xs.drop i = prsFrom k p ∧ p + k = 1415 ∧ NoSmall n p ∧ W.cell? ⟨n₀.heap.size, 0, none⟩ = some (.int .i64 n) ∧ W.cell? ⟨n₀.heap.size + 1, 0, none⟩ = some r ∧ W.frozen? ⟨n₀.heap.size + 1, 0, none⟩ = false ∧ Below n₀.heap.size n₀ W
/-- How its loop stops: by a divisor, or by a prime that is great enough. -/
def Wx (n₀ : World) (n : Int) (c : Code) (_ : Nat → Prop) (W : World) : Prop := Below n₀.heap.size n₀ W ∧ match c with
  | .ret => wpB n = false ∧ W.cell? ⟨n₀.heap.size + 1, 0, none⟩ = some (.bool false)
  | .exit id => id = 0 ∧ wpB n = true ∧ ∃ r, W.cell? ⟨n₀.heap.size + 1, 0, none⟩ = some r ∧ W.frozen? ⟨n₀.heap.size + 1, 0, none⟩ = false
  | _ => False

end Go.Proofs.Ytahnkecdningnaa

namespace Go.Proofs.Ytahnkecdningnaa
open Go Go.RowKit
attribute [local go_sem] World.cell?_alloc_some cell?_alloc2_some cell?_alloc3_some cell?_alloc4_some frozen?_alloc_some frozen?_alloc2_some frozen?_alloc3_some World.cell?_setCell_far new_ne0 new_ne1 new_ne2 new_ne3 lt2 lt3 lt4 lt5 lt6 lt7 lt8 lt9

theorem prO_f {a b : Int} (h : gok a b = false) : prO a b = false := by simp [prO, h]
theorem prO_in {a b : Int} (k : gok a b = true) (ha : a ≠ 0) (hb : b ≠ 0) : prO a b = wpB (a * a + b * b) := by
  have hab : (a != 0 && b != 0) = true := by simp [ha, hb]
  rw [prO, k, hab]; rfl
theorem prO_on {a b : Int} (k : gok a b = true) (h : a = 0 ∨ b = 0) : prO a b = (mxB a b % 4 == 3 && wpB (mxB a b)) := by
  have hab : (a != 0 && b != 0) = false := by rcases h with rfl | rfl <;> simp
  rw [prO, k, hab]; rfl
theorem mxB_sum {a b : Int} (h : a = 0 ∨ b = 0) : mxB a b = max (a + b) (-a - b) := by unfold mxB; omega

theorem knO_no {p : Int} (h : ¬ (2 ≤ p ∧ p ≤ 1000) ∨ wpB p = false) : knO p = -1 := by
  unfold knO
  rcases h with h | h
  · rw [decide_eq_false h]; rfl
  · rw [h, Bool.and_false]; rfl
theorem knO_yes {p : Int} (h2 : p ≤ 1000) (hw : wpB p = true) : knO p = if p = 2 then 0 else if p % 4 = 1 then 1 else 2 := by
  have := (wpB_iff.1 hw).1
  unfold knO
  rw [hw, decide_eq_true ⟨this, h2⟩]; rfl
end Go.Proofs.Ytahnkecdningnaa

namespace Go.Proofs.Ytahnkecdningnaa
open Go Go.RowKit
attribute [local go_sem] World.cell?_alloc_some cell?_alloc2_some cell?_alloc3_some cell?_alloc4_some frozen?_alloc_some frozen?_alloc2_some frozen?_alloc3_some World.cell?_setCell_far new_ne0 new_ne1 new_ne2 new_ne3 lt2 lt3 lt4 lt5 lt6 lt7 lt8 lt9

theorem run_max4 {P : Program} (w : World) (ts : Array TypeId) (t : TypeId) (x y z u : Int) : (Builtin.max_ ts t #[.int .i64 x, .int .i64 y, .int .i64 z, .int .i64 u]).run P w = .ok (.int .i64 (max (max (max x y) z) u)) w := by
  have e : ∀ a b : Int, (if b > a then b else a) = max a b := fun a b => by rw [Int.max_def]; split <;> split <;> omega
  simp [Builtin.max_, Builtin.max2, e]
theorem l1In_kind (p : Int) (w : World) : Calls Try.prog 41 #[.int .i64 p, .int .i64 2, .int .i64 1000] w fun e w' => e = .returned (.bool (decide (2 ≤ p ∧ p ≤ 1000))) ∧ Below w.heap.size w w' :=
  (l1In p 2 1000 w).mono fun e w' ⟨h1, h2⟩ => ⟨h1, by subst h2; exact Below.refl _ _⟩
end Go.Proofs.Ytahnkecdningnaa
