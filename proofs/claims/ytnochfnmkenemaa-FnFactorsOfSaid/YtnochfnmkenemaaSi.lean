import Derived.Test.YtnochfnmkenemaaSh
import Derived.Test.YtnochfnmkenemaaSa
import Derived.Test.YtnochfnmkenemaaHc
import Derived.Test.YtnochfnmkenemaaHx
import Derived.OwnWalkIn
import Derived.RangeFuncNested
namespace Go.Proofs.Ytnochfnmkenemaa
open Go Go.RowKit Go.Shelf
attribute [local go_sem] World.cell?_alloc_some cell?_alloc2_some cell?_alloc3_some cell?_alloc4_some frozen?_alloc_some frozen?_alloc2_some frozen?_alloc3_some World.cell?_setCell_far new_ne0 new_ne1 new_ne2 new_ne3 lt2 lt3 lt4 lt5 lt6 lt7 lt8 lt9
attribute [local go_sem] Oper.semAt_some

/-- An operation that defers nothing does in a round what it does elsewhere. -/
theorem op_round {P : Program} {n l : Nat} {o : Oper} {a : Act} {w : World} {K : Act → World → Prop} {Q : Exit → Act → World → Prop} (ho : ∀ c, o.op ≠ .defer c) (h : o.wp P a w K Q) : o.wpIn (Fence.wide.inRound l) n P a w K Q := by
  unfold Oper.wp at h
  unfold Oper.wpIn
  refine ⟨fun _ _ => trivial, ?_⟩
  rw [Fence.inRound_round, Oper.semAt_some l _ _ ho]
  generalize (execOp a.eval o).run P w = r at h
  cases r with
  | ok x w' =>
    cases x with
    | value v => exact h
    | skip => exact h
    | defer d => exact h
    | enter f args => exact ⟨fun h0 => (by cases h0), CallsIn.inRound l (callsIn_wide.2 h)⟩
    | row row args => exact ⟨fun h0 => (by cases h0), fun c cs _ => by obtain ⟨v, w1, r, s⟩ := h c cs; exact ⟨v, w1, r, stepsIn_wide.2 s⟩⟩
    | _ => exact h.elim
  | halt x w' => cases x <;> exact h
theorem any_round {P : Program} {n l : Nat} {md : Region.Mode} {ops : Array Oper} {Q : Exit → Act → World → Prop} (hd : ∀ (i : Nat) (o : Oper), ops[i]? = some o → ∀ c, o.op ≠ Op.defer c) (hq : ¬ LetsOut Q) :
    ∀ (fuel : Nat) (listed : Array Bool) (a : Act) (w : World), wpAny P md ops Q fuel listed a w → wpAnyIn (Fence.wide.inRound l) n P md ops Q fuel listed a w := by
  intro fuel
  induction fuel with
  | zero => exact fun listed a w h => h
  | succ fuel ih =>
    rintro listed a w ⟨h1, h2⟩
    refine ⟨h1, fun i hi => ?_⟩
    have h := h2 i hi
    unfold wpOp at h
    unfold wpOpIn
    cases ho : ops[i]? with
    | none => rw [ho] at h; exact ih _ _ _ h
    | some o =>
      rw [ho] at h
      dsimp only at h ⊢
      split
      · rename_i hw
        rw [if_pos hw] at h
        rcases h with h | ⟨-, h⟩
        · exact Oper.wpIn_mono (fun a w h => ih _ a w h) (op_round (hd i o ho) h)
        · exact absurd h hq
      · rename_i hw
        rw [if_neg hw] at h
        exact ⟨fun _ _ => trivial, ih _ _ _ h⟩
theorem wpIn_name {F : Fence} {n : Nat} {P : Program} {c : Code} {Q : Exit → Act → World → Prop} {a : Act} {W : World} (R : World → Prop) (h0 : R W) (h : ∀ W', R W' → c.wpIn F n P Q a W') : c.wpIn F n P Q a W := h W h0

/-- What trial division keeps: the list so far, what is left, the marks. -/
structure Tq (n₀ : World) (x y : Int) (v : Value) (l : List (Int × Int)) (Ds : List Nat) (wr : World) : Prop where
  c : wr.cell? ⟨n₀.heap.size + 1, 0, none⟩ = some v
  f : wr.frozen? ⟨n₀.heap.size + 1, 0, none⟩ = false
  t : Two wr (n₀.heap.size + 1 + 1) x y
  g : GS wr (n₀.heap.size + 3) v l
  nd : Ds.Nodup
  d : ∀ D ∈ Ds, n₀.heap.size + 3 ≤ D ∧ D < wr.heap.size ∧ v.ownBlock ≠ some D ∧ wr.heap[D]? = some (.deferred (some []))
  b : Below n₀.heap.size n₀ wr
  hs : n₀.heap.size + 3 ≤ wr.heap.size
theorem keep_two {K : Nat → Prop} {V W : World} (h : Keep K V W) {b : Nat} {x y : Int} (hb : K b) (t : Two V b x y) : Two W b x y := ⟨h.cell hb t.c0, h.cell hb t.c1, h.frozen hb t.c0 t.f0, h.frozen hb t.c1 t.f1⟩
section
variable {n₀ wr wx : World} {x y : Int} {l : List (Int × Int)} {v : Value} {Ds : List Nat}
theorem Tq.keep {K : Nat → Prop} (h : Tq n₀ x y v l Ds wr) (hk : Keep K wr wx) (hK : ∀ b, b < n₀.heap.size + 3 ∨ v.ownBlock = some b ∨ b ∈ Ds → K b) : Tq n₀ x y v l Ds wx := by
  refine ⟨hk.cell (hK _ (.inl (by dsimp only; omega))) h.c, hk.frozen (hK _ (.inl (by dsimp only; omega))) h.c h.f, keep_two hk (hK _ (.inl (by omega))) h.t, h.g.kept hk (fun g hg => hK _ (.inr (.inl hg))), h.nd, fun D hD => ?_, h.b.trans (hk.below (fun b hb => hK _ (.inl (by omega))) h.b.size), by have := h.hs; have := hk.size; omega⟩
  obtain ⟨h1, h2, h3, h4⟩ := h.d D hD
  exact ⟨h1, by have := hk.size; omega, h3, hk.heap (hK _ (.inr (.inr hD))) h4⟩
theorem Tq.below (h : Tq n₀ x y v l Ds wr) (hk : Below wr.heap.size wr wx) : Tq n₀ x y v l Ds wx := h.keep (Keep.of_below (fun _ => True) hk) (fun _ _ => trivial)
theorem Tq.more (h : Tq n₀ x y v l Ds wr) {D : Nat} (hD : wr.heap[D]? = some (.deferred (some []))) (h1 : ∀ D' ∈ Ds, D' < D) (h2 : n₀.heap.size + 3 ≤ D) (h3 : v.ownBlock ≠ some D) : Tq n₀ x y v l (D :: Ds) wr := by
  refine ⟨h.c, h.f, h.t, h.g, List.nodup_cons.2 ⟨fun h' => Nat.lt_irrefl _ (h1 D h'), h.nd⟩, fun D' hD' => ?_, h.b, h.hs⟩
  rcases List.mem_cons.1 hD' with rfl | h'
  · exact ⟨h2, (Array.getElem?_eq_some_iff.1 hD).1, h3, hD⟩
  · exact h.d D' h'
/-- Another number left. -/
theorem Tq.left (h : Tq n₀ x y v l Ds wr) (x' y' : Int) : Tq n₀ x' y' v l Ds ((wr.setCell ⟨n₀.heap.size + 1 + 1, 0, none⟩ (.int .i64 x')).setCell ⟨n₀.heap.size + 1 + 1, 1, none⟩ (.int .i64 y')) := by
  have ks : Keep (fun b => b ≠ n₀.heap.size + 1 + 1) wr ((wr.setCell ⟨n₀.heap.size + 1 + 1, 0, none⟩ (.int .i64 x')).setCell ⟨n₀.heap.size + 1 + 1, 1, none⟩ (.int .i64 y')) := ((Keep.refl _ _).setCell (fun h => h rfl) _).setCell (fun h => h rfl) _
  have t := h.t
  refine ⟨ks.cell (by dsimp only; omega) h.c, ks.frozen (by dsimp only; omega) h.c h.f, ⟨keepS (.inr (by omega)) (sameS t.c0), sameS (keepS (.inr (by omega)) t.c1), keepFS (keepFS t.f0), keepFS (keepFS t.f1)⟩, h.g.kept ks (fun g hg => by have := (h.g.lt g hg).1; omega), h.nd, fun D hD => ?_, ?_, by have := h.hs; have := ks.size; omega⟩
  · obtain ⟨h1, h2, h3, h4⟩ := h.d D hD
    exact ⟨h1, by have := ks.size; omega, h3, ks.heap (by omega) h4⟩
  · exact h.b.trans (ks.below (fun b hb => by omega) h.b.size)
/-- Numbers appended, and the slice stored. -/
theorem Tq.app (h : Tq n₀ x y v l Ds wr) {l' : List (Int × Int)} {v' : Value} (hg : GS wx (n₀.heap.size + 3) v' l') (hk : wr.grownBy wx v.ownBlock) (hat : v'.ownBlock = v.ownBlock ∨ v'.ownBlock = some wr.heap.size) :
    Tq n₀ x y v' l' Ds (wx.setCell ⟨n₀.heap.size + 1, 0, none⟩ v') := by
  have k := grown_keep hk
  have c := k.cell (p := ⟨n₀.heap.size + 1, 0, none⟩) (h.g.ne (by dsimp only; omega)) h.c
  have f := k.frozen (p := ⟨n₀.heap.size + 1, 0, none⟩) (h.g.ne (by dsimp only; omega)) h.c h.f
  have hs := k.size
  have ks : Keep (fun b => b ≠ n₀.heap.size + 1) wx (wx.setCell ⟨n₀.heap.size + 1, 0, none⟩ v') := (Keep.refl _ _).setCell (fun h => h rfl) _
  have t := keep_two ks (b := n₀.heap.size + 1 + 1) (by omega) (keep_two k (h.g.ne (by omega)) h.t)
  refine ⟨sameS c, keepFS f, t, hg.kept ks (fun g hg' => by have := (hg.lt g hg').1; omega), h.nd, fun D hD => ?_, ?_, by have := h.hs; have := ks.size; omega⟩
  · obtain ⟨h1, h2, h3, h4⟩ := h.d D hD
    refine ⟨h1, by have := ks.size; omega, fun e => ?_, ks.heap (by omega) (k.heap (fun e => h3 e.symm) h4)⟩
    rcases hat with h' | h'
    · rw [h'] at e; exact h3 e
    · rw [h'] at e; injection e with e; omega
  · exact (h.b.trans (k.below (fun b hb => h.g.ne (by omega)) h.b.size)).trans (ks.below (fun b hb => by omega) (by have := h.b.size; omega))
end
end Go.Proofs.Ytnochfnmkenemaa
