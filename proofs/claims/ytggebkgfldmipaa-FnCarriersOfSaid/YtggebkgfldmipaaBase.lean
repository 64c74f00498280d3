import Derived.WalkKit
import Derived.ProofKit
import Derived.OpenShut
import Derived.ShutString
import Derived.ChangeOld
import Derived.Below
import Derived.Lib.Hide
import Derived.Handy
import Derived.Deep.RegionHeld
import Derived.Deep.DeepFit
import Derived.Outline
import Derived.Lib.QuietBelow
import Derived.BigQuiet
namespace Go.Proofs.Ytggebkgfldmipaa
open Go Go.RowKit

/-- A small set of facts on worlds: cells that are there stay where they are. -/
theorem frozen?_alloc_some (w : World) (a : Addr) (o : Obj) (h : (w.cell? a).isSome = true) : (w.alloc o).frozen? a = w.frozen? a := by
  obtain ⟨u, hu⟩ := Option.isSome_iff_exists.1 h
  exact World.frozen?_alloc_old _ _ _ (Nat.ne_of_lt (World.block_lt_of_cell? w a hu))

theorem cell?_alloc2_some (w : World) (a : Addr) (o o2 : Obj) (h : (w.cell? a).isSome = true) : ((w.alloc o).alloc o2).cell? a = w.cell? a := by
  rw [World.cell?_alloc_some _ _ _ (by rw [World.cell?_alloc_some _ _ _ h]; exact h), World.cell?_alloc_some _ _ _ h]
theorem cell?_alloc3_some (w : World) (a : Addr) (o o2 o3 : Obj) (h : (w.cell? a).isSome = true) : (((w.alloc o).alloc o2).alloc o3).cell? a = w.cell? a := by
  rw [World.cell?_alloc_some _ _ _ (by rw [cell?_alloc2_some _ _ _ _ h]; exact h), cell?_alloc2_some _ _ _ _ h]
theorem cell?_alloc4_some (w : World) (a : Addr) (o o2 o3 o4 : Obj) (h : (w.cell? a).isSome = true) : ((((w.alloc o).alloc o2).alloc o3).alloc o4).cell? a = w.cell? a := by
  rw [World.cell?_alloc_some _ _ _ (by rw [cell?_alloc3_some _ _ _ _ _ h]; exact h), cell?_alloc3_some _ _ _ _ _ h]
theorem frozen?_alloc2_some (w : World) (a : Addr) (o o2 : Obj) (h : (w.cell? a).isSome = true) : ((w.alloc o).alloc o2).frozen? a = w.frozen? a := by
  rw [frozen?_alloc_some _ _ _ (by rw [World.cell?_alloc_some _ _ _ h]; exact h), frozen?_alloc_some _ _ _ h]
theorem frozen?_alloc3_some (w : World) (a : Addr) (o o2 o3 : Obj) (h : (w.cell? a).isSome = true) : (((w.alloc o).alloc o2).alloc o3).frozen? a = w.frozen? a := by
  rw [frozen?_alloc_some _ _ _ (by rw [cell?_alloc2_some _ _ _ _ h]; exact h), frozen?_alloc2_some _ _ _ _ h]

theorem bcell {W w1 : World} (hb : Below W.heap.size W w1) : (∀ b o, (W.cell? ⟨b, o, none⟩).isSome = true → w1.cell? ⟨b, o, none⟩ = W.cell? ⟨b, o, none⟩) ∧ (∀ b o, (W.cell? ⟨b, o, none⟩).isSome = true → w1.frozen? ⟨b, o, none⟩ = W.frozen? ⟨b, o, none⟩) := by
  refine ⟨fun b o h => hb.cell (p := ⟨b, o, none⟩) ?_, fun b o h => hb.frozen (p := ⟨b, o, none⟩) ?_⟩ <;>
  ( obtain ⟨u, hu⟩ := Option.isSome_iff_exists.1 h
    exact World.block_lt_of_cell? W ⟨b, o, none⟩ hu)

/-- Facts on a cell, carried step by step. -/
theorem born {w : World} {l : List Value} {t : TypeId} {i X : Nat} {v : Value} (hX : X = w.heap.size) (h : l[i]? = some v) : (w.alloc (.cells l.toArray t)).cell? ⟨X, i, none⟩ = some v := by
  rw [World.cell?_alloc_at _ _ _ _ hX]; simpa using h
theorem keepA {w : World} {a : Addr} {v : Value} {o : Obj} (h : w.cell? a = some v) : (w.alloc o).cell? a = some v := by
  rw [World.cell?_alloc_some _ _ _ (by rw [h]; rfl)]; exact h
theorem keepD {w : World} {a : Addr} {v : Value} (h : w.cell? a = some v) : w.drew.cell? a = some v := h
theorem sameS {w : World} {a : Addr} {v u : Value} (h : w.cell? a = some u) : (w.setCell a v).cell? a = some v := World.cell?_setCell_same _ _ _ h
theorem keepS {w : World} {b o b' o' : Nat} {v u : Value} (hne : b ≠ b' ∨ o ≠ o') (h : w.cell? ⟨b, o, none⟩ = some v) : (w.setCell ⟨b', o', none⟩ u).cell? ⟨b, o, none⟩ = some v := by
  rw [World.cell?_setCell_other _ _ _ _ (by intro e; injection e; omega)]; exact h
theorem bornF {w : World} {cs : Array Value} {t : TypeId} {i X : Nat} (hX : X = w.heap.size) : (w.alloc (.cells cs t)).frozen? ⟨X, i, none⟩ = false := World.frozen?_alloc_at _ _ _ _ hX
theorem keepFA {w : World} {a : Addr} {v : Value} {o : Obj} (h : w.cell? a = some v) (hf : w.frozen? a = false) : (w.alloc o).frozen? a = false := by
  rw [frozen?_alloc_some _ _ _ (by rw [h]; rfl)]; exact hf
theorem keepFS {w : World} {a p : Addr} {u : Value} (hf : w.frozen? a = false) : (w.setCell p u).frozen? a = false := by simpa using hf
theorem keepFD {w : World} {a : Addr} (hf : w.frozen? a = false) : w.drew.frozen? a = false := hf

/-- A cell that is there when a call begins holds the same behind it. -/
theorem keep {W w1 : World} (hb : Below W.heap.size W w1) {a : Addr} {v : Value} (h : W.cell? a = some v) : w1.cell? a = some v := by
  rw [hb.cell (World.block_lt_of_cell? W a h)]; exact h
theorem keepF {W w1 : World} (hb : Below W.heap.size W w1) {a : Addr} {v : Value} (h : W.cell? a = some v) (hf : W.frozen? a = false) : w1.frozen? a = false := by
  rw [hb.frozen (World.block_lt_of_cell? W a h)]; exact hf

/-- A block of two parts that is not frozen; one of which just the parts are told. -/
structure T2 (W : World) (b : Nat) (x y : Value) : Prop where
  c0 : W.cell? ⟨b, 0, none⟩ = some x
  c1 : W.cell? ⟨b, 1, none⟩ = some y
  f0 : W.frozen? ⟨b, 0, none⟩ = false
  f1 : W.frozen? ⟨b, 1, none⟩ = false
structure C2 (W : World) (b : Nat) (x y : Value) : Prop where
  c0 : W.cell? ⟨b, 0, none⟩ = some x
  c1 : W.cell? ⟨b, 1, none⟩ = some y
section
variable {w w1 : World} {b b' o' : Nat} {x y u : Value} {o : Obj} {t : TypeId}
theorem C2.K (hb : Below w.heap.size w w1) (h : C2 w b x y) : C2 w1 b x y := ⟨keep hb h.c0, keep hb h.c1⟩
theorem C2.A (h : C2 w b x y) : C2 (w.alloc o) b x y := ⟨keepA h.c0, keepA h.c1⟩
theorem C2.D (h : C2 w b x y) : C2 w.drew b x y := ⟨h.c0, h.c1⟩
theorem C2.S (hne : b ≠ b') (h : C2 w b x y) : C2 (w.setCell ⟨b', o', none⟩ u) b x y := ⟨keepS (.inl hne) h.c0, keepS (.inl hne) h.c1⟩
theorem C2.Z (h : C2 w b x y) : C2 (w.setCell ⟨b, 0, none⟩ u) b u y := ⟨sameS h.c0, keepS (.inr (by omega)) h.c1⟩
theorem C2.O (h : C2 w b x y) : C2 (w.setCell ⟨b, 1, none⟩ u) b x u := ⟨keepS (.inr (by omega)) h.c0, sameS h.c1⟩
theorem C2.B (hb : b = w.heap.size) : C2 (w.alloc (.cells #[x, y] t)) b x y := ⟨born (l := [x, y]) hb rfl, born (l := [x, y]) hb rfl⟩
theorem T2.K (hb : Below w.heap.size w w1) (h : T2 w b x y) : T2 w1 b x y := ⟨keep hb h.c0, keep hb h.c1, keepF hb h.c0 h.f0, keepF hb h.c1 h.f1⟩
theorem T2.A (h : T2 w b x y) : T2 (w.alloc o) b x y := ⟨keepA h.c0, keepA h.c1, keepFA h.c0 h.f0, keepFA h.c1 h.f1⟩
theorem T2.D (h : T2 w b x y) : T2 w.drew b x y := ⟨h.c0, h.c1, h.f0, h.f1⟩
theorem T2.S (hne : b ≠ b') (h : T2 w b x y) : T2 (w.setCell ⟨b', o', none⟩ u) b x y := ⟨keepS (.inl hne) h.c0, keepS (.inl hne) h.c1, keepFS h.f0, keepFS h.f1⟩
theorem T2.Z (h : T2 w b x y) : T2 (w.setCell ⟨b, 0, none⟩ u) b u y := ⟨sameS h.c0, keepS (.inr (by omega)) h.c1, keepFS h.f0, keepFS h.f1⟩
theorem T2.O (h : T2 w b x y) : T2 (w.setCell ⟨b, 1, none⟩ u) b x u := ⟨keepS (.inr (by omega)) h.c0, sameS h.c1, keepFS h.f0, keepFS h.f1⟩
theorem T2.B (hb : b = w.heap.size) : T2 (w.alloc (.cells #[x, y] t)) b x y := ⟨born (l := [x, y]) hb rfl, born (l := [x, y]) hb rfl, bornF hb, bornF hb⟩
end

theorem lt2 (n : Nat) : n < n + 1 + 1 := by omega
theorem lt3 (n : Nat) : n < n + 1 + 1 + 1 := by omega
theorem lt4 (n : Nat) : n < n + 1 + 1 + 1 + 1 := by omega
theorem lt5 (n : Nat) : n < n + 1 + 1 + 1 + 1 + 1 := by omega
theorem lt6 (n : Nat) : n < n + 1 + 1 + 1 + 1 + 1 + 1 := by omega
theorem lt7 (n : Nat) : n < n + 1 + 1 + 1 + 1 + 1 + 1 + 1 := by omega
theorem lt8 (n : Nat) : n < n + 1 + 1 + 1 + 1 + 1 + 1 + 1 + 1 := by omega
theorem lt9 (n : Nat) : n < n + 1 + 1 + 1 + 1 + 1 + 1 + 1 + 1 + 1 := by omega
theorem new_ne0 (w : World) (b : Nat) (h : (w.cell? ⟨b, 0, none⟩).isSome = true) : (w.heap.size = b) = False := by
  obtain ⟨u, hu⟩ := Option.isSome_iff_exists.1 h
  have := World.block_lt_of_cell? w ⟨b, 0, none⟩ hu
  simp only [eq_iff_iff, iff_false]; simp at this; omega
theorem new_ne1 (w : World) (b k : Nat) (h : (w.cell? ⟨b, 0, none⟩).isSome = true) : (w.heap.size + k = b) = False := by
  obtain ⟨u, hu⟩ := Option.isSome_iff_exists.1 h
  have := World.block_lt_of_cell? w ⟨b, 0, none⟩ hu
  simp only [eq_iff_iff, iff_false]; simp at this; omega
theorem new_ne2 (w : World) (b k l : Nat) (h : (w.cell? ⟨b, 0, none⟩).isSome = true) : (w.heap.size + k + l = b) = False := by
  obtain ⟨u, hu⟩ := Option.isSome_iff_exists.1 h
  have := World.block_lt_of_cell? w ⟨b, 0, none⟩ hu
  simp only [eq_iff_iff, iff_false]; simp at this; omega
theorem new_ne3 (w : World) (b k l m : Nat) (h : (w.cell? ⟨b, 0, none⟩).isSome = true) : (w.heap.size + k + l + m = b) = False := by
  obtain ⟨u, hu⟩ := Option.isSome_iff_exists.1 h
  have := World.block_lt_of_cell? w ⟨b, 0, none⟩ hu
  simp only [eq_iff_iff, iff_false]; simp at this; omega

/-- The world at hand gets a name of its own. -/
theorem wp_name {P : Program} {c : Code} {Q : Exit → Act → World → Prop} {a : Act} {W : World} (h : ∀ W', Below W.heap.size W W' → c.wp P Q a W') : c.wp P Q a W := h W (Below.refl _ _)
theorem below_of_regrown {w w' : World} (h : ∃ p : Regrown, w' = Go.Sort.grow (redrawn w p.d) p.os) : Below w.heap.size w w' := by
  obtain ⟨p, rfl⟩ := h; exact below_regrown w p.d p.os
open Go Go.RowKit
theorem kcA {w : World} {a : Addr} {v : Value} (h : w.cell? a = some v := by (repeat (first | (with_reducible assumption) | (with_reducible apply sameS) | ((with_reducible apply born); (focus (simp; done)); (focus rfl)) | (with_reducible apply keepA) | (with_reducible apply keepD) | ((with_reducible apply keepS); focus ((repeat (first | rw [World.size_alloc] | rw [World.size_setCell] | rw [World.size_drew])); omega)) | ((with_reducible apply keep); (focus (with_reducible assumption)))))) : w.cell? a = some v := h
theorem kfA {w : World} {a : Addr} (h : w.frozen? a = false := by (repeat (first | (with_reducible assumption) | ((with_reducible apply bornF); (focus (simp; done))) | (with_reducible apply keepFS) | (with_reducible apply keepFD) | ((with_reducible apply keepFA); (focus (repeat (first | (with_reducible assumption) | (with_reducible apply sameS) | ((with_reducible apply born); (focus (simp; done)); (focus rfl)) | (with_reducible apply keepA) | (with_reducible apply keepD) | ((with_reducible apply keepS); focus ((repeat (first | rw [World.size_alloc] | rw [World.size_setCell] | rw [World.size_drew])); omega)) | ((with_reducible apply keep); (focus (with_reducible assumption)))))))))) : w.frozen? a = false := h
theorem c2A {w : World} {b : Nat} {x y : Value} (h : C2 w b x y := by (repeat (first | ((with_reducible apply C2.mk) <;> (with_reducible assumption)) | (with_reducible apply C2.Z) | (with_reducible apply C2.O) | ((with_reducible apply C2.B); (focus (simp; done))) | (with_reducible apply C2.A) | (with_reducible apply C2.D) | ((with_reducible apply C2.S); focus ((repeat (first | rw [World.size_alloc] | rw [World.size_setCell] | rw [World.size_drew])); omega)) | ((with_reducible apply C2.K); (focus (with_reducible assumption)))))) : C2 w b x y := h
theorem t2A {w : World} {b : Nat} {x y : Value} (h : T2 w b x y := by (repeat (first | ((with_reducible apply T2.mk) <;> (with_reducible assumption)) | (with_reducible apply T2.Z) | (with_reducible apply T2.O) | ((with_reducible apply T2.B); (focus (simp; done))) | (with_reducible apply T2.A) | (with_reducible apply T2.D) | ((with_reducible apply T2.S); focus ((repeat (first | rw [World.size_alloc] | rw [World.size_setCell] | rw [World.size_drew])); omega)) | ((with_reducible apply T2.K); (focus (with_reducible assumption)))))) : T2 w b x y := h
theorem blA {B : Nat} {w w' : World} (h : Below B w w' := by (repeat' (first | (with_reducible exact Below.refl _ _) | (with_reducible refine Below.alloc ?_ ?_ _) | (with_reducible refine Below.drew ?_) | (with_reducible refine Below.setCell ?_ ?_ _) | (with_reducible refine Below.trans ?_ (Below.mono (by assumption) ?_)) | go_size))) : Below B w w' := h
end Go.Proofs.Ytggebkgfldmipaa
