import Derived.Test.YtahnkecdningnaaProg
import Derived.Test.YtahnkecdningnaaYa
import Derived.Test.YtahnkecdningnaaYb
import Derived.Test.YtahnkecdningnaaOb
import Derived.Test.YtahnkecdningnaaOc
import Derived.Deep.AppendLies
import Derived.RangeFuncNested
import Derived.Shelf.RegionOpen
import Derived.OwnWalkIn
import Derived.TacticsInMore
import Derived.Test.YtahnkecdningnaaYi
import Derived.Test.YtahnkecdningnaaJp
import Derived.Test.YtahnkecdningnaaR
import Derived.Test.YtahnkecdningnaaJq
namespace Go.Proofs.Ytahnkecdningnaa
open Go Go.RowKit Go.Shelf
attribute [local go_sem] World.cell?_alloc_some cell?_alloc2_some cell?_alloc3_some cell?_alloc4_some frozen?_alloc_some frozen?_alloc2_some frozen?_alloc3_some World.cell?_setCell_far new_ne0 new_ne1 new_ne2 new_ne3 lt2 lt3 lt4 lt5 lt6 lt7 lt8 lt9

/-- The slice v holds the list l, in cells of its own from block 'base' on. -/
def GS (W : World) (base : Nat) (v : Value) (l : List (Int × Int)) : Prop := W.ownsRow base 24 2 v l.length (gCells l)
theorem GS.nil (W : World) (base : Nat) : GS W base (.slice none 0 0) [] := World.ownsRow_nil W base _ _
theorem GS.mono {W : World} {base base' : Nat} {v : Value} {l : List (Int × Int)} (h : GS W base v l) (hb : base' ≤ base) : GS W base' v l := by
  obtain ⟨h1, h2⟩ := h
  refine ⟨h1, h2.imp_right ?_⟩
  rintro ⟨g, cap, cur, hv, hg, rest⟩
  exact ⟨g, cap, cur, hv, by omega, rest⟩
theorem GS.kept {K : Nat → Prop} {W W' : World} {base : Nat} {v : Value} {l : List (Int × Int)} (h : GS W base v l) (hk : Keep K W W') (hv : ∀ g, v.ownBlock = some g → K g) : GS W' base v l := by
  obtain ⟨h1, h2⟩ := h
  refine ⟨h1, h2.imp_right ?_⟩
  rintro ⟨g, cap, cur, rfl, hg, hh, rest⟩
  exact ⟨g, cap, cur, rfl, hg, hk.heap (hv g rfl) hh, rest⟩
theorem GS.lt {W : World} {base : Nat} {v : Value} {l : List (Int × Int)} (h : GS W base v l) : ∀ g, v.ownBlock = some g → base ≤ g ∧ g < W.heap.size := World.ownsRow.lt h
theorem GS.below {W W' : World} {base : Nat} {v : Value} {l : List (Int × Int)} (h : GS W base v l) (hk : Below W.heap.size W W') : GS W' base v l := h.kept (Keep.of_below (fun _ => True) hk) (fun _ _ => trivial)
theorem GS.ne {W : World} {base X : Nat} {v : Value} {l : List (Int × Int)} (h : GS W base v l) (hX : X < base) : some X ≠ v.ownBlock := fun e => by
  have := (h.lt X e.symm).1; omega
theorem grown_keep {w w' : World} {row : Option Nat} (h : w.grownBy w' row) : Keep (fun b => some b ≠ row) w w' := Keep.grown h (fun _ h => h)

theorem gauss_info : (Try.prog.info? 24).map (fun i => (i.zero, i.size, i.bytes)) = some (some (.agg #[.int .i64 0, .int .i64 0]), 2, 16) := by kernel_rfl
theorem run_app (w : World) (ty : TypeId) (base : Nat) (v : Value) (l : List (Int × Int)) (p q : Int) (hown : GS w base v l) (X : Nat) (c0 : w.cell? ⟨X, 0, none⟩ = some (.int .i64 p)) (c1 : w.cell? ⟨X, 1, none⟩ = some (.int .i64 q)) (hl : l.length ≤ 8000000) (hbase : base ≤ w.heap.size) :
    ∃ g cap w', (Builtin.append_ #[39, 39] ty #[v, .slice (some ⟨X, 0, none⟩) 1 1]).run Try.prog w = .ok (.slice (some ⟨g, 0, none⟩) (l.length + 1) cap) w' ∧
      GS w' base (.slice (some ⟨g, 0, none⟩) (l.length + 1) cap) (l ++ [(p, q)]) ∧ w.grownBy w' v.ownBlock ∧ (v.ownBlock = some g ∨ g = w.heap.size) ∧ g < w'.heap.size := by
  obtain ⟨i, hi, hz0, hz1, hz2⟩ := info_parts gauss_info
  obtain ⟨g, cap, w', h1, h2, h3, h4, h5⟩ := run_append_lies (P := Try.prog) w 39 ty base 24 i _ 2 16 Try.underlying39 hi hz0 hz1 hz2 rfl (by decide) v l.length (gCells l) hown ⟨X, 0, none⟩ 1 1 [.int .i64 p, .int .i64 q] rfl
    (by
      intro j u hj
      have hadd : (⟨X, 0, none⟩ : Addr).add j = ⟨X, j, none⟩ := by unfold Addr.add; split <;> simp_all
      rw [hadd]
      match j, hj with
      | 0, hj => simp at hj; subst hj; exact c0
      | 1, hj => simp at hj; subst hj; exact c1)
    (by intro u hu; simp at hu; rcases hu with rfl | rfl <;> rfl) (by decide) (by unfold maxLen; omega) (by omega) hbase w.heap.size rfl
  refine ⟨g, cap, w', h1, ?_, h3, h4, h5⟩
  unfold GS
  rw [gCells_append, List.length_append]
  exact h2

theorem appIn {F : Fence} {n : Nat} (w : World) {ops : Array Oper} {rest : List Oper} {o : Oper} {a : Act} {Q : Exit → Act → World → Prop}
    (hg : o.guard = none) (s x : Operand) (hop : o.op = Op.call { callee := Callee.builtin Builtin.append, args := #[s, x], argTypes := #[39, 39] })
    (base : Nat) (v : Value) (l : List (Int × Int)) (p q : Int) (hs : a.eval s = v) (hown : GS w base v l) (X : Nat) (hx : a.eval x = .slice (some ⟨X, 0, none⟩) 1 1)
    (c0 : w.cell? ⟨X, 0, none⟩ = some (.int .i64 p)) (c1 : w.cell? ⟨X, 1, none⟩ = some (.int .i64 q)) (hl : l.length ≤ 8000000) (hbase : base ≤ w.heap.size)
    (hK : ∀ g cap w', GS w' base (.slice (some ⟨g, 0, none⟩) (l.length + 1) cap) (l ++ [(p, q)]) → w.grownBy w' v.ownBlock → (v.ownBlock = some g ∨ g = w.heap.size) → g < w'.heap.size → wpListIn F n Try.prog ops Q rest (a.put o.dst (.slice (some ⟨g, 0, none⟩) (l.length + 1) cap)) w') :
    wpListIn F n Try.prog ops Q (o :: rest) a w := by
  refine wpListIn_plain hg fun K hK' => ?_
  obtain ⟨g, cap, w', hrun, r1, r2, r3, r4⟩ := run_app w o.type base v l p q hown X c0 c1 hl hbase
  unfold Oper.wpIn
  refine ⟨?_, ?_⟩
  · simp [Oper.about, hop, resolve, Target.leads, Sem.run_pure]
  · rw [Oper.semAt_plain F _ _ (by rw [hop]; intro c hc'; cases hc')]
    simp [execOp, hop, resolve, invoke, builtin, hs, hx, hrun, Result.andThen]
    exact hK' _ _ (hK g cap w' r1 r2 r3 r4)
theorem appPl (w : World) {ops : Array Oper} {rest : List Oper} {o : Oper} {a : Act} {Q : Exit → Act → World → Prop}
    (hg : o.guard = none) (s x : Operand) (hop : o.op = Op.call { callee := Callee.builtin Builtin.append, args := #[s, x], argTypes := #[39, 39] })
    (base : Nat) (v : Value) (l : List (Int × Int)) (p q : Int) (hs : a.eval s = v) (hown : GS w base v l) (X : Nat) (hx : a.eval x = .slice (some ⟨X, 0, none⟩) 1 1)
    (c0 : w.cell? ⟨X, 0, none⟩ = some (.int .i64 p)) (c1 : w.cell? ⟨X, 1, none⟩ = some (.int .i64 q)) (hl : l.length ≤ 8000000) (hbase : base ≤ w.heap.size)
    (hK : ∀ g cap w', GS w' base (.slice (some ⟨g, 0, none⟩) (l.length + 1) cap) (l ++ [(p, q)]) → w.grownBy w' v.ownBlock → (v.ownBlock = some g ∨ g = w.heap.size) → g < w'.heap.size → wpList Try.prog ops Q rest (a.put o.dst (.slice (some ⟨g, 0, none⟩) (l.length + 1) cap)) w') :
    wpList Try.prog ops Q (o :: rest) a w := by
  refine wpList_plain hg fun K hK' => ?_
  obtain ⟨g, cap, w', hrun, r1, r2, r3, r4⟩ := run_app w o.type base v l p q hown X c0 c1 hl hbase
  unfold Oper.wp execOp
  simp only [hop, resolve, invoke, builtin, Sem.run_bind, Sem.run_pure, Result.andThen_ok, List.map_toArray, List.map_cons, List.map_nil, hs, hx, hrun]
  exact hK' _ _ (hK g cap w' r1 r2 r3 r4)
end Go.Proofs.Ytahnkecdningnaa

namespace Go.Proofs.Ytahnkecdningnaa
open Go Go.RowKit Go.Shelf
attribute [local go_sem] World.cell?_alloc_some cell?_alloc2_some cell?_alloc3_some cell?_alloc4_some frozen?_alloc_some frozen?_alloc2_some frozen?_alloc3_some World.cell?_setCell_far new_ne0 new_ne1 new_ne2 new_ne3 lt2 lt3 lt4 lt5 lt6 lt7 lt8 lt9
attribute [local go_sem] Oper.semAt_some

theorem row_at {L : List (Int × Int)} {k : Nat} {row : Array Value} (h : (L.map gRow)[k]? = some row) : ∃ a b, row = gRow (a, b) ∧ L[k]? = some (a, b) ∧ L.take (k + 1) = L.take k ++ [(a, b)] := by
  rw [List.getElem?_map, Option.map_eq_some_iff] at h
  obtain ⟨⟨a, b⟩, h1, rfl⟩ := h
  refine ⟨a, b, rfl, h1, ?_⟩
  rw [List.take_add_one, h1]; rfl
/-- Between two rounds: what was handed over so far, in order. -/
def Ai (n₀ : World) (L : List (Int × Int)) (i : Nat) (S : Nat → Prop) (W : World) : Prop := ∃ v, W.cell? ⟨n₀.heap.size, 0, none⟩ = some v ∧ W.frozen? ⟨n₀.heap.size, 0, none⟩ = false ∧ GS W (n₀.heap.size + 1) v (L.take i) ∧ (∀ g, v.ownBlock = some g → S g) ∧ Below n₀.heap.size n₀ W
set_option maxHeartbeats 4000000 in
theorem iAppendSeq (gf : Nat) (lb : Array Value) (L : List (Int × Int)) (C : Nat → Prop) (w : World) (eg : ∀ args w, (callFunc gf args).run Try.prog w = .ok (.enter gf args) w) (hit : IterG Try.prog gf lb (L.map gRow) C w) (hC : ∀ b, C b → b < w.heap.size) (hlen : L.length ≤ 8000000) :
    Calls Try.prog 82 #[.slice none 0 0, .func (.func gf) #[] lb] w fun e w' => ∃ v, e = .returned v ∧ GS w' w.heap.size v L ∧ Below w.heap.size w w' := by
  refine (callsIn_wide (n := 9)).1 ?_
  refine callsIn_of_wp_marks Try.func82 rfl trivial ?_ rfl
  simp only [Try.ntmps82, List.size_toArray, List.length_cons, List.length_nil, Nat.reduceAdd, Nat.reduceSub, Array.replicate_succ, Array.replicate_zero, List.push_toArray, List.append_toArray, List.nil_append, List.cons_append]
  refine wpIn_wide.2 ?_
  go_wp2_with fail
  refine (wpIn_wide (n := 9)).1 ?_
  refine wp_rangeG (xs := L.map gRow) rfl eg hit (fun b h => by have := hC b h; simp; omega) (Keep.of_below _ (by (repeat' (first | (with_reducible exact Below.refl _ _) | (with_reducible refine Below.alloc ?_ ?_ _) | (with_reducible refine Below.drew ?_) | (with_reducible refine Below.setCell ?_ ?_ _) | (with_reducible refine Below.trans ?_ (Below.mono (by assumption) ?_)) | go_size)))) (fun x hx => by obtain ⟨q, -, rfl⟩ := List.mem_map.1 hx; rfl)
    (Ai w L) (fun _ _ _ => False) ?hI (fun _ _ _ _ h _ => h) ?h0 ?round ?done (fun _ _ _ _ _ h => h.elim)
  case hI =>
    rintro i S A B ⟨v, c0, f0, hg, hv, hb⟩ hAB
    exact ⟨v, hAB.cell (.inl (by simp)) c0, hAB.frozen (.inl (by simp)) c0 f0, hg.kept hAB (fun g hg' => .inr (hv g hg')), hv, hb.trans (hAB.below (fun b hb => .inl (by simp; omega)) hb.size)⟩
  case h0 => exact ⟨_, by (repeat (first | (with_reducible assumption) | (with_reducible apply sameS) | ((with_reducible apply born); (focus (simp; done)); (focus rfl)) | (with_reducible apply keepA) | (with_reducible apply keepD) | ((with_reducible apply keepS); focus ((repeat (first | rw [World.size_alloc] | rw [World.size_setCell] | rw [World.size_drew])); omega)) | ((with_reducible apply keep); (focus (with_reducible assumption))))), by (repeat (first | (with_reducible assumption) | ((with_reducible apply bornF); (focus (simp; done))) | (with_reducible apply keepFS) | (with_reducible apply keepFD) | ((with_reducible apply keepFA); (focus (repeat (first | (with_reducible assumption) | (with_reducible apply sameS) | ((with_reducible apply born); (focus (simp; done)); (focus rfl)) | (with_reducible apply keepA) | (with_reducible apply keepD) | ((with_reducible apply keepS); focus ((repeat (first | rw [World.size_alloc] | rw [World.size_setCell] | rw [World.size_drew])); omega)) | ((with_reducible apply keep); (focus (with_reducible assumption))))))))), GS.nil _ _, fun g hg => by simp [Value.ownBlock] at hg, by (repeat' (first | (with_reducible exact Below.refl _ _) | (with_reducible refine Below.alloc ?_ ?_ _) | (with_reducible refine Below.drew ?_) | (with_reducible refine Below.setCell ?_ ?_ _) | (with_reducible refine Below.trans ?_ (Below.mono (by assumption) ?_)) | go_size))⟩
  case round =>
    rintro l i S row W hr ⟨v, c0, f0, hg, hv, hb⟩ hs hS
    obtain ⟨a, b, rfl, hat, htk⟩ := row_at hr
    simp only [World.size_alloc] at hs hS
    have hsz : w.heap.size < W.heap.size := by omega
    rw [gRow]
    gi_wp2
    refine ⟨(Keep.refl _ _).alloc _, ?_⟩
    intro W2 hs2 hk2
    rw [World.size_alloc] at hs2
    rw [World.size_alloc] at hk2
    have tV := hk2.t2 (b := W.heap.size) (x := .int .i64 a) (y := .int .i64 b) (.inr (by omega)) (by (repeat (first | ((with_reducible apply T2.mk) <;> (with_reducible assumption)) | (with_reducible apply T2.Z) | (with_reducible apply T2.O) | ((with_reducible apply T2.B); (focus (simp; done))) | (with_reducible apply T2.A) | (with_reducible apply T2.D) | ((with_reducible apply T2.S); focus ((repeat (first | rw [World.size_alloc] | rw [World.size_setCell] | rw [World.size_drew])); omega)) | ((with_reducible apply T2.K); (focus (with_reducible assumption))))))
    have c0' := hk2.cell (p := ⟨w.heap.size, 0, none⟩) (v := v) (.inl (by dsimp only; omega)) (by (repeat (first | (with_reducible assumption) | (with_reducible apply sameS) | ((with_reducible apply born); (focus (simp; done)); (focus rfl)) | (with_reducible apply keepA) | (with_reducible apply keepD) | ((with_reducible apply keepS); focus ((repeat (first | rw [World.size_alloc] | rw [World.size_setCell] | rw [World.size_drew])); omega)) | ((with_reducible apply keep); (focus (with_reducible assumption))))))
    have f0' := hk2.frozen (p := ⟨w.heap.size, 0, none⟩) (v := v) (.inl (by dsimp only; omega)) (by (repeat (first | (with_reducible assumption) | (with_reducible apply sameS) | ((with_reducible apply born); (focus (simp; done)); (focus rfl)) | (with_reducible apply keepA) | (with_reducible apply keepD) | ((with_reducible apply keepS); focus ((repeat (first | rw [World.size_alloc] | rw [World.size_setCell] | rw [World.size_drew])); omega)) | ((with_reducible apply keep); (focus (with_reducible assumption)))))) (by (repeat (first | (with_reducible assumption) | ((with_reducible apply bornF); (focus (simp; done))) | (with_reducible apply keepFS) | (with_reducible apply keepFD) | ((with_reducible apply keepFA); (focus (repeat (first | (with_reducible assumption) | (with_reducible apply sameS) | ((with_reducible apply born); (focus (simp; done)); (focus rfl)) | (with_reducible apply keepA) | (with_reducible apply keepD) | ((with_reducible apply keepS); focus ((repeat (first | rw [World.size_alloc] | rw [World.size_setCell] | rw [World.size_drew])); omega)) | ((with_reducible apply keep); (focus (with_reducible assumption))))))))))
    have hg2 := (hg.kept ((Keep.refl (fun _ => True) W).alloc _) (fun _ _ => trivial)).kept hk2 (fun g h => .inr (hS g (hv g h)).1)
    have hb' : Below w.heap.size w W2 := (hb.alloc (by omega) _).trans (hk2.below (fun b hb => .inl (by omega)) (by simp; omega))
    have hS2 : ∀ g, v.ownBlock = some g → S g ∧ w.heap.size + 1 + 2 ≤ g ∧ g < W.heap.size := fun g h => ⟨hv g h, hS g (hv g h)⟩
    clear c0 f0 hg hb
    obtain ⟨v0, v1, -, -⟩ := tV
    have HS := Lib.hid hs2
    clear hs2
    have hl2 : (L.take i).length ≤ 8000000 := by rw [List.length_take]; omega
    obtain ⟨T, hT⟩ : ∃ T, L.take i = T := ⟨_, rfl⟩
    rw [hT] at hl2 hg2 htk
    clear hT
    have hne : some w.heap.size ≠ v.ownBlock := hg2.ne (by omega)
    gi_wp2_with (gi_at_builtin; refine appIn _ rfl _ _ rfl (w.heap.size + 1) v T a b rfl (hg2.kept ((Keep.refl (fun _ => True) W2).alloc _) (fun _ _ => trivial)) W2.heap.size rfl (by (repeat (first | (with_reducible assumption) | (with_reducible apply sameS) | ((with_reducible apply born); (focus (simp; done)); (focus rfl)) | (with_reducible apply keepA) | (with_reducible apply keepD) | ((with_reducible apply keepS); focus ((repeat (first | rw [World.size_alloc] | rw [World.size_setCell] | rw [World.size_drew])); omega)) | ((with_reducible apply keep); (focus (with_reducible assumption)))))) (by (repeat (first | (with_reducible assumption) | (with_reducible apply sameS) | ((with_reducible apply born); (focus (simp; done)); (focus rfl)) | (with_reducible apply keepA) | (with_reducible apply keepD) | ((with_reducible apply keepS); focus ((repeat (first | rw [World.size_alloc] | rw [World.size_setCell] | rw [World.size_drew])); omega)) | ((with_reducible apply keep); (focus (with_reducible assumption)))))) hl2 (by have := HS.out; simp; omega) ?_; intro g cap W3 hg3 hgr hat3 hlt3; have hk3 := grown_keep hgr; have c3 := hk3.cell (p := ⟨w.heap.size, 0, none⟩) (v := v) hne (by (repeat (first | (with_reducible assumption) | (with_reducible apply sameS) | ((with_reducible apply born); (focus (simp; done)); (focus rfl)) | (with_reducible apply keepA) | (with_reducible apply keepD) | ((with_reducible apply keepS); focus ((repeat (first | rw [World.size_alloc] | rw [World.size_setCell] | rw [World.size_drew])); omega)) | ((with_reducible apply keep); (focus (with_reducible assumption)))))); have f3 := hk3.frozen (p := ⟨w.heap.size, 0, none⟩) (v := v) hne (by (repeat (first | (with_reducible assumption) | (with_reducible apply sameS) | ((with_reducible apply born); (focus (simp; done)); (focus rfl)) | (with_reducible apply keepA) | (with_reducible apply keepD) | ((with_reducible apply keepS); focus ((repeat (first | rw [World.size_alloc] | rw [World.size_setCell] | rw [World.size_drew])); omega)) | ((with_reducible apply keep); (focus (with_reducible assumption)))))) (by (repeat (first | (with_reducible assumption) | ((with_reducible apply bornF); (focus (simp; done))) | (with_reducible apply keepFS) | (with_reducible apply keepFD) | ((with_reducible apply keepFA); (focus (repeat (first | (with_reducible assumption) | (with_reducible apply sameS) | ((with_reducible apply born); (focus (simp; done)); (focus rfl)) | (with_reducible apply keepA) | (with_reducible apply keepD) | ((with_reducible apply keepS); focus ((repeat (first | rw [World.size_alloc] | rw [World.size_setCell] | rw [World.size_drew])); omega)) | ((with_reducible apply keep); (focus (with_reducible assumption)))))))))))
    have hs3 := hk3.size
    rw [World.size_alloc] at hs3
    have hgS : S g ∨ W.heap.size ≤ g := by
      rcases hat3 with h | h
      · exact .inl (hv g h)
      · rw [World.size_alloc] at h
        have := HS.out
        exact .inr (by omega)
    have hgw : w.heap.size ≠ g := by
      rcases hgS with h | h
      · have := (hS g h).1; omega
      · omega
    refine ⟨fun b => b = g, fun b h => by subst h; exact ⟨hgS, by simpa using hlt3⟩, ?_, .slice (some ⟨g, 0, none⟩) (T.length + 1) cap, by (repeat (first | (with_reducible assumption) | (with_reducible apply sameS) | ((with_reducible apply born); (focus (simp; done)); (focus rfl)) | (with_reducible apply keepA) | (with_reducible apply keepD) | ((with_reducible apply keepS); focus ((repeat (first | rw [World.size_alloc] | rw [World.size_setCell] | rw [World.size_drew])); omega)) | ((with_reducible apply keep); (focus (with_reducible assumption))))), by (repeat (first | (with_reducible assumption) | ((with_reducible apply bornF); (focus (simp; done))) | (with_reducible apply keepFS) | (with_reducible apply keepFD) | ((with_reducible apply keepFA); (focus (repeat (first | (with_reducible assumption) | (with_reducible apply sameS) | ((with_reducible apply born); (focus (simp; done)); (focus rfl)) | (with_reducible apply keepA) | (with_reducible apply keepD) | ((with_reducible apply keepS); focus ((repeat (first | rw [World.size_alloc] | rw [World.size_setCell] | rw [World.size_drew])); omega)) | ((with_reducible apply keep); (focus (with_reducible assumption))))))))), ?_, fun g' h => by simpa [Value.ownBlock] using h.symm, ?_⟩
    · refine Keep.setCell ?_ ?_ _
      · refine (Keep.alloc (Keep.refl _ _) _).trans (hk3.mono ?_)
        rintro b ⟨h1, h2, h3⟩ _ e
        exact h1 (hv b e.symm)
      · rintro ⟨h1, h2, h3⟩
        rcases h2 with h2 | h2
        · have := hC _ h2; dsimp only at this; omega
        · rw [World.size_alloc] at h2; dsimp only at h2; omega
    · rw [htk]
      have := hg3.kept (Keep.setCell (Keep.refl (fun b => b ≠ w.heap.size) W3) (p := ⟨w.heap.size, 0, none⟩) (fun h => h rfl) (.slice (some ⟨g, 0, none⟩) (T.length + 1) cap)) (fun g' h => by
        have : g' = g := by simpa [Value.ownBlock] using h.symm
        omega)
      exact this
    · refine Below.setCell ?_ (by dsimp only; omega) _
      refine (hb'.alloc (by have := HS.out; omega) _).trans (hk3.below (fun b hb => hg2.ne (by omega)) (by simp; have := HS.out; omega))
  case done =>
    rintro D S W hD ⟨v, c0, f0, hg, hv, hb⟩ hSD hK
    rw [List.length_map, List.take_length] at hg
    have HK := Lib.hid hK
    clear hK
    rw [World.size_alloc] at hD
    go_wp2_with fail
    refine mark_back v HK.out ?_ ?_
    · intro W' hW'
      simp [results, Try.results82, go_sem]
    · intro W' hk' hb'
      exact ⟨v, rfl, (hg.kept hk' (fun g h e => by have := hSD g (hv g h); omega)).mono (by omega), Below.trans hb (hb'.mono (by omega))⟩

theorem iCollect (gf : Nat) (lb : Array Value) (L : List (Int × Int)) (C : Nat → Prop) (w : World) (eg : ∀ args w, (callFunc gf args).run Try.prog w = .ok (.enter gf args) w) (hit : IterG Try.prog gf lb (L.map gRow) C w) (hC : ∀ b, C b → b < w.heap.size) (hlen : L.length ≤ 8000000) :
    Calls Try.prog 58 #[.func (.func gf) #[] lb] w fun e w' => ∃ v, e = .returned v ∧ GS w' w.heap.size v L ∧ Below w.heap.size w w' := by
  go_enter Try.func58, Try.ntmps58
  go_wp2_with fail
  refine (iAppendSeq gf lb L C _ eg hit hC hlen).mono ?_
  rintro e w1 ⟨v, rfl, hg, hb⟩
  go_wp2_with fail
  go_returns
  exact ⟨v, rfl, hg, hb⟩
end Go.Proofs.Ytahnkecdningnaa

namespace Go.Proofs.Ytahnkecdningnaa
open Go Go.RowKit Go.Shelf
attribute [local go_sem] World.cell?_alloc_some cell?_alloc2_some cell?_alloc3_some cell?_alloc4_some frozen?_alloc_some frozen?_alloc2_some frozen?_alloc3_some World.cell?_setCell_far new_ne0 new_ne1 new_ne2 new_ne3 lt2 lt3 lt4 lt5 lt6 lt7 lt8 lt9
attribute [local go_sem] Oper.semAt_some

/-- The marks of loops over functions among the deferred calls. -/
def mark (D : Nat) : Deferred := { target := .collected D, args := #[] }
theorem marks_back {P : Program} {n : Nat} {fn : Func} {tmps : Array Value} {R : Ending → World → Prop} (v : Value) : ∀ (Ds : List Nat) (W : World), Ds.Nodup → (∀ D ∈ Ds, W.heap[D]? = some (.deferred (some []))) →
    (∀ W' : World, Keep (fun b => b ∉ Ds) W W' → (results fn tmps).run P W' = .ok v W' ∧ R (.returned v) W') → LeavesInM Fence.wide n P fn tmps R (Ds.map mark) .returning W := by
  intro Ds
  induction Ds with
  | nil =>
    intro W _ _ h
    obtain ⟨h1, h2⟩ := h W (Keep.refl _ _)
    exact ⟨v, h1, h2⟩
  | cons D Ds ih =>
    intro W hn hd h
    obtain ⟨hD, hn'⟩ := List.nodup_cons.1 hn
    refine ⟨by simp, .inl ⟨D, _, rfl, run_takeDeferred (hd D (List.mem_cons_self ..)), ih _ hn' (fun D' h' => ?_) (fun W' hk => h W' ?_)⟩⟩
    · rw [World.putObj_heap_other (by rintro rfl; exact hD h')]
      exact hd D' (List.mem_cons_of_mem _ h')
    · refine (Keep.putObj W (fun h => h (List.mem_cons_self ..)) _).trans (hk.mono fun b hb _ h => hb (List.mem_cons_of_mem _ h))

/-- What an iterator that holds a loop over another one keeps: the caller's state, the number that it reads, the yield in its box, the marks. -/
structure Dq (W : World) (J : Nat → (Nat → Prop) → World → Prop) (a b : Int) (Bz l i : Nat) (S : Nat → Prop) (Ds : List Nat) (wr : World) : Prop where
  j : J i S wr
  z : C2 wr Bz (.int .i64 a) (.int .i64 b)
  zlt : Bz < W.heap.size
  x : wr.cell? ⟨W.heap.size, 0, none⟩ = some (.func (.yield l) #[] #[])
  s : ∀ b, S b → W.heap.size < b ∧ b < wr.heap.size
  nd : Ds.Nodup
  d : ∀ D ∈ Ds, W.heap.size < D ∧ D < wr.heap.size ∧ ¬ S D ∧ wr.heap[D]? = some (.deferred (some []))
  hs : W.heap.size < wr.heap.size
section
variable {W wr wx : World} {J J' : Nat → (Nat → Prop) → World → Prop} {a b : Int} {Bz l i i' : Nat} {S S' : Nat → Prop} {Ds : List Nat}
theorem C2.keep {K : Nat → Prop} {b : Nat} {x y : Value} (hk : Keep K wr wx) (hb : K b) (h : C2 wr b x y) : C2 wx b x y := ⟨hk.cell hb h.c0, hk.cell hb h.c1⟩
theorem Dq.keep {K : Nat → Prop} (h : Dq W J a b Bz l i S Ds wr) (hJ : ∀ k S A B, J k S A → Keep (fun b => b < W.heap.size ∨ S b) A B → J k S B) (hk : Keep K wr wx) (hK : ∀ b, b ≤ W.heap.size ∨ S b ∨ b ∈ Ds → K b) : Dq W J a b Bz l i S Ds wx := by
  have hz := h.zlt
  refine ⟨hJ _ _ _ _ h.j (hk.mono fun b hb _ => hK b (hb.elim (fun h => .inl (by omega)) (fun h => .inr (.inl h)))), h.z.keep hk (hK _ (.inl (by omega))), hz, hk.cell (hK _ (.inl (Nat.le_refl _))) h.x, fun b hb => ?_, h.nd, fun D hD => ?_, by have := h.hs; have := hk.size; omega⟩
  · have := h.s b hb; have := hk.size; omega
  · obtain ⟨h1, h2, h3, h4⟩ := h.d D hD
    exact ⟨h1, by have := hk.size; omega, h3, hk.heap (hK _ (.inr (.inr hD))) h4⟩
theorem Dq.below (h : Dq W J a b Bz l i S Ds wr) (hJ : ∀ k S A B, J k S A → Keep (fun b => b < W.heap.size ∨ S b) A B → J k S B) (hk : Below wr.heap.size wr wx) : Dq W J a b Bz l i S Ds wx := h.keep hJ (Keep.of_below (fun _ => True) hk) (fun _ _ => trivial)
theorem Dq.yield (h : Dq W J a b Bz l i S Ds wr) (hj : J' i' S' wx) (hS : ∀ b, S' b → (S b ∨ wr.heap.size ≤ b) ∧ b < wx.heap.size) (hk : Keep (fun b => ¬ S b ∧ (b = Bz ∨ W.heap.size ≤ b)) wr wx) : Dq W J' a b Bz l i' S' Ds wx := by
  have hz := h.zlt
  have hs := h.hs
  refine ⟨hj, h.z.keep hk ⟨fun h' => by have := (h.s _ h').1; omega, .inl rfl⟩, hz, hk.cell ⟨fun h' => by have := (h.s _ h').1; dsimp only at this; omega, .inr (Nat.le_refl _)⟩ h.x, fun b hb => ?_, h.nd, fun D hD => ?_, by have := hk.size; omega⟩
  · refine ⟨?_, (hS b hb).2⟩
    rcases (hS b hb).1 with h' | h'
    · exact (h.s b h').1
    · omega
  · obtain ⟨h1, h2, h3, h4⟩ := h.d D hD
    refine ⟨h1, by have := hk.size; omega, fun h' => ?_, hk.heap ⟨h3, .inr (by omega)⟩ h4⟩
    rcases (hS D h').1 with h'' | h''
    · exact h3 h''
    · omega
theorem Dq.more (h : Dq W J a b Bz l i S Ds wr) {D : Nat} (hD : wr.heap[D]? = some (.deferred (some []))) (h1 : ∀ D' ∈ Ds, D' < D) (h2 : W.heap.size < D) (h3 : ¬ S D) : Dq W J a b Bz l i S (D :: Ds) wr := by
  refine ⟨h.j, h.z, h.zlt, h.x, h.s, List.nodup_cons.2 ⟨fun h' => Nat.lt_irrefl _ (h1 D h'), h.nd⟩, fun D' hD' => ?_, h.hs⟩
  rcases List.mem_cons.1 hD' with rfl | h'
  · exact ⟨h2, (Array.getElem?_eq_some_iff.1 hD).1, h3, hD⟩
  · exact h.d D' h'
/-- Behind the last mark the caller's state is as it was. -/
theorem Dq.out (h : Dq W J a b Bz l i S Ds wr) (hJ : ∀ k S A B, J k S A → Keep (fun b => b < W.heap.size ∨ S b) A B → J k S B) (hk : Keep (fun b => b ∉ Ds) wr wx) : J i S wx ∧ W.heap.size ≤ wx.heap.size := by
  refine ⟨hJ _ _ _ _ h.j (hk.mono fun b hb _ hD => ?_), by have := h.hs; have := hk.size; omega⟩
  obtain ⟨h1, h2, h3, -⟩ := h.d b hD
  rcases hb with h' | h'
  · omega
  · exact h3 h'
end
theorem filter_next {L : List (Int × Int)} {m : Nat} {q : Int × Int} (ok : Int × Int → Bool) (h : L[m]? = some q) : (L.drop m).filter ok = if ok q then q :: (L.drop (m + 1)).filter ok else (L.drop (m + 1)).filter ok := by
  obtain ⟨hl, he⟩ := List.getElem?_eq_some_iff.1 h
  rw [List.drop_eq_getElem_cons hl, he, List.filter_cons]
end Go.Proofs.Ytahnkecdningnaa

namespace Go.Proofs.Ytahnkecdningnaa
open Go Go.RowKit Go.Shelf
attribute [local go_sem] World.cell?_alloc_some cell?_alloc2_some cell?_alloc3_some cell?_alloc4_some frozen?_alloc_some frozen?_alloc2_some frozen?_alloc3_some World.cell?_setCell_far new_ne0 new_ne1 new_ne2 new_ne3 lt2 lt3 lt4 lt5 lt6 lt7 lt8 lt9
attribute [local go_sem] Oper.semAt_some

/-- Between two norms. -/
def Do (W : World) (J : Nat → (Nat → Prop) → World → Prop) (xs : List (Array Value)) (a b N : Int) (Bz l : Nat) (v : Value) (ds : List Deferred) (wr : World) : Prop :=
  ∃ (i k n : Nat) (S : Nat → Prop) (Ds : List Nat), v = .int .i64 (n : Int) ∧ 1 ≤ n ∧ (n : Int) + k = N + 1 ∧ i ≤ xs.length ∧ xs.drop i = (dvFrom a b k n).map gRow ∧ ds = Ds.map mark ∧ Dq W J a b Bz l i S Ds wr
/-- Between two numbers of one norm. -/
def Dn (W : World) (J : Nat → (Nat → Prop) → World → Prop) (xs : List (Array Value)) (a b : Int) (Bz l pre k n : Nat) (Ds : List Nat) (m : Nat) (Si : Nat → Prop) (wr : World) : Prop :=
  ∃ (i : Nat) (S : Nat → Prop), i ≤ xs.length ∧ xs.drop i = (((circ n).drop m).filter (fun p => vdO p.1 p.2 a b) ++ dvFrom a b k ((n : Int) + 1)).map gRow ∧ (∀ b, S b → Si b ∨ b < pre) ∧ Dq W J a b Bz l i S Ds wr
def Dx (W : World) (Jx : Nat → (Nat → Prop) → World → Prop) (a b : Int) (Bz l pre : Nat) (Ds : List Nat) (c : Code) (Si : Nat → Prop) (wr : World) : Prop :=
  c = .ret ∧ ∃ (i : Nat) (S : Nat → Prop), (∀ b, S b → Si b ∨ b < pre) ∧ Dq W Jx a b Bz l i S Ds wr

end Go.Proofs.Ytahnkecdningnaa

namespace Go.Proofs.Ytahnkecdningnaa
open Go Go.RowKit Go.Shelf
attribute [local go_sem] World.cell?_alloc_some cell?_alloc2_some cell?_alloc3_some cell?_alloc4_some frozen?_alloc_some frozen?_alloc2_some frozen?_alloc3_some World.cell?_setCell_far new_ne0 new_ne1 new_ne2 new_ne3 lt2 lt3 lt4 lt5 lt6 lt7 lt8 lt9

/-- The divisors that are told. -/
def dvL (a b : Int) : List (Int × Int) := if gok a b = true ∧ 1 ≤ a * a + b * b ∧ a * a + b * b ≤ 2000 then dvFrom a b (a * a + b * b).toNat 1 else []
def grid : List (Int × Int) := (List.range 45).flatMap fun u : Nat => (List.range 45).map fun v : Nat => ((u : Int), (v : Int))
theorem grid_len : grid.length = 2025 := by kernel_rfl
theorem mem_grid {u v : Int} (h1 : 0 ≤ u) (h2 : u ≤ 44) (h3 : 0 ≤ v) (h4 : v ≤ 44) : (u, v) ∈ grid := by
  obtain ⟨u', rfl⟩ := Int.eq_ofNat_of_zero_le h1
  obtain ⟨v', rfl⟩ := Int.eq_ofNat_of_zero_le h3
  exact List.mem_flatMap.2 ⟨u', List.mem_range.2 (by omega), List.mem_map.2 ⟨v', List.mem_range.2 (by omega), rfl⟩⟩
/-- A list in order of numbers of the first quarter with small norms is short. -/
theorem len_2025 {l : List (Int × Int)} (hs : l.Pairwise ltD) (h : ∀ u v, (u, v) ∈ l → fqP u v ∧ u * u + v * v ≤ 2000) : l.length ≤ 2025 := by
  have hnd : l.Nodup := hs.imp (fun hpq e => by subst e; exact ltD_irr _ hpq)
  have hsub : l ⊆ grid := by
    rintro ⟨u, v⟩ hp
    obtain ⟨⟨h1, h2⟩, h3⟩ := h u v hp
    have := sq_nn v
    have := sq_nn u
    exact mem_grid (by omega) (sq_le_44 (by omega)) h2 (sq_le_44 (by omega))
  have := List.Nodup.length_le_of_subset hnd hsub
  rw [grid_len] at this
  exact this
theorem dvL_no {a b : Int} (h : nrm a b < 1 ∨ 2000 < nrm a b) : dvL a b = [] := by
  unfold dvL
  by_cases k : gok a b = true
  · rw [nrm_t k] at h
    rw [if_neg (by omega)]
  · rw [if_neg (fun h => k h.1)]
theorem dvL_yes {a b : Int} (h1 : 1 ≤ nrm a b) (h2 : nrm a b ≤ 2000) : gok a b = true ∧ nrm a b = a * a + b * b ∧ dvL a b = dvFrom a b (a * a + b * b).toNat 1 ∧ Dvs a b (dvL a b) ∧ ¬ (a = 0 ∧ b = 0) ∧ (dvL a b).length ≤ 2025 := by
  have k : gok a b = true := by
    cases k : gok a b
    · simp [nrm, k] at h1
    · rfl
  have e := nrm_t k
  rw [e] at h1 h2
  have hz : ¬ (a = 0 ∧ b = 0) := by rintro ⟨rfl, rfl⟩; omega
  have hd : dvL a b = dvFrom a b (a * a + b * b).toNat 1 := by rw [dvL, if_pos ⟨k, h1, h2⟩]
  have hv := dv_list hz h2
  refine ⟨k, e, hd, by rw [hd]; exact hv, hz, ?_⟩
  rw [hd]
  exact len_2025 hv.sorted (fun u v h => by obtain ⟨q1, -, q3⟩ := (hv.mem u v).1 h; exact ⟨q1, by omega⟩)
end Go.Proofs.Ytahnkecdningnaa

namespace Go.Proofs.Ytahnkecdningnaa
open Go Go.RowKit Go.Shelf
attribute [local go_sem] World.cell?_alloc_some cell?_alloc2_some cell?_alloc3_some cell?_alloc4_some frozen?_alloc_some frozen?_alloc2_some frozen?_alloc3_some World.cell?_setCell_far new_ne0 new_ne1 new_ne2 new_ne3 lt2 lt3 lt4 lt5 lt6 lt7 lt8 lt9
attribute [local go_sem] Oper.semAt_some

/-- What a function keeps that appends to a list of its own in loops over an iterator. -/
structure Pq (n₀ : World) (l : List (Int × Int)) (v : Value) (Ds : List Nat) (wr : World) : Prop where
  c : wr.cell? ⟨n₀.heap.size, 0, none⟩ = some v
  f : wr.frozen? ⟨n₀.heap.size, 0, none⟩ = false
  g : GS wr (n₀.heap.size + 1) v l
  nd : Ds.Nodup
  d : ∀ D ∈ Ds, n₀.heap.size < D ∧ D < wr.heap.size ∧ v.ownBlock ≠ some D ∧ wr.heap[D]? = some (.deferred (some []))
  b : Below n₀.heap.size n₀ wr
  hs : n₀.heap.size < wr.heap.size
section
variable {n₀ wr wx : World} {l : List (Int × Int)} {v : Value} {Ds : List Nat}
theorem Pq.keep {K : Nat → Prop} (h : Pq n₀ l v Ds wr) (hk : Keep K wr wx) (hK : ∀ b, b ≤ n₀.heap.size ∨ v.ownBlock = some b ∨ b ∈ Ds → K b) : Pq n₀ l v Ds wx := by
  refine ⟨hk.cell (hK _ (.inl (Nat.le_refl _))) h.c, hk.frozen (hK _ (.inl (Nat.le_refl _))) h.c h.f, h.g.kept hk (fun g hg => hK _ (.inr (.inl hg))), h.nd, fun D hD => ?_, h.b.trans (hk.below (fun b hb => hK _ (.inl (by omega))) h.b.size), by have := h.hs; have := hk.size; omega⟩
  obtain ⟨h1, h2, h3, h4⟩ := h.d D hD
  exact ⟨h1, by have := hk.size; omega, h3, hk.heap (hK _ (.inr (.inr hD))) h4⟩
theorem Pq.below (h : Pq n₀ l v Ds wr) (hk : Below wr.heap.size wr wx) : Pq n₀ l v Ds wx := h.keep (Keep.of_below (fun _ => True) hk) (fun _ _ => trivial)
theorem Pq.more (h : Pq n₀ l v Ds wr) {D : Nat} (hD : wr.heap[D]? = some (.deferred (some []))) (h1 : ∀ D' ∈ Ds, D' < D) (h2 : n₀.heap.size < D) (h3 : v.ownBlock ≠ some D) : Pq n₀ l v (D :: Ds) wr := by
  refine ⟨h.c, h.f, h.g, List.nodup_cons.2 ⟨fun h' => Nat.lt_irrefl _ (h1 D h'), h.nd⟩, fun D' hD' => ?_, h.b, h.hs⟩
  rcases List.mem_cons.1 hD' with rfl | h'
  · exact ⟨h2, (Array.getElem?_eq_some_iff.1 hD).1, h3, hD⟩
  · exact h.d D' h'
/-- One number more: appended, and the slice stored. -/
theorem Pq.app (h : Pq n₀ l v Ds wr) {l' : List (Int × Int)} {g n cap : Nat} (hg : GS wx (n₀.heap.size + 1) (.slice (some ⟨g, 0, none⟩) n cap) l') (hk : wr.grownBy wx v.ownBlock) (hat : v.ownBlock = some g ∨ g = wr.heap.size) :
    Pq n₀ l' (.slice (some ⟨g, 0, none⟩) n cap) Ds (wx.setCell ⟨n₀.heap.size, 0, none⟩ (.slice (some ⟨g, 0, none⟩) n cap)) := by
  have hX : some n₀.heap.size ≠ v.ownBlock := h.g.ne (by omega)
  have k := grown_keep hk
  have c := k.cell (p := ⟨n₀.heap.size, 0, none⟩) hX h.c
  have f := k.frozen (p := ⟨n₀.heap.size, 0, none⟩) hX h.c h.f
  have hs := k.size
  have ks : Keep (fun b => b ≠ n₀.heap.size) wx (wx.setCell ⟨n₀.heap.size, 0, none⟩ (.slice (some ⟨g, 0, none⟩) n cap)) := (Keep.refl _ _).setCell (fun h => h rfl) _
  have hgl := hg.lt g rfl
  have hgk : ∀ g', (Value.slice (some ⟨g, 0, none⟩) n cap).ownBlock = some g' → g' ≠ n₀.heap.size := fun g' e => by
    have e' : g' = g := by simpa [Value.ownBlock] using e.symm
    omega
  refine ⟨sameS c, keepFS f, hg.kept ks hgk, h.nd, fun D hD => ?_, ?_, by have := h.hs; have := ks.size; omega⟩
  · obtain ⟨h1, h2, h3, h4⟩ := h.d D hD
    refine ⟨h1, by have := ks.size; omega, fun e => ?_, ks.heap (by omega) (k.heap (fun e => h3 e.symm) h4)⟩
    have e' : D = g := by simpa [Value.ownBlock] using e.symm
    subst e'
    rcases hat with h' | h'
    · exact h3 h'
    · omega
  · exact (h.b.trans (k.below (fun b hb => h.g.ne (by omega)) h.b.size)).setCell (Nat.le_refl _) _
end
theorem cir_len {n : Int} : ∀ (k : Nat) (a : Int), (cirFrom n k a).length ≤ k := by
  intro k
  induction k with
  | zero => intro a; simp [cirFrom]
  | succ k ih =>
    intro a
    have := ih (a + 1)
    cases h : cirB n a with
    | none => rw [cir_miss h]; omega
    | some b => rw [cir_hit h, List.length_cons]; omega
/-- The primes that are told. -/
def pgL (M : Int) : List (Int × Int) := if M ≤ 400 then pgFrom M.toNat 1 else []
def Po (n₀ : World) (M : Int) (u : Value) (ds : List Deferred) (wr : World) : Prop :=
  ∃ (k n : Nat) (l : List (Int × Int)) (v : Value) (Ds : List Nat), u = .int .i64 (n : Int) ∧ 1 ≤ n ∧ ((n : Int) + k = M + 1 ∨ (k = 0 ∧ M < 1)) ∧ l ++ pgFrom k n = pgL M ∧ ds = Ds.map mark ∧ Pq n₀ l v Ds wr
def Pn (n₀ : World) (n pre : Nat) (l : List (Int × Int)) (Ds : List Nat) (m : Nat) (Si : Nat → Prop) (wr : World) : Prop :=
  ∃ v, (∀ g, v.ownBlock = some g → Si g ∨ g < pre) ∧ Pq n₀ (l ++ ((circ n).take m).filter (fun p => prO p.1 p.2)) v Ds wr
theorem pg_len (M : Int) : (pgL M).length ≤ 2025 := by
  unfold pgL
  split
  · have h := pg_found M.toNat 1 [] (by omega) (Found.start _ (by omega))
    rw [List.nil_append] at h
    refine len_2025 h.sorted (fun u v hm => ?_)
    obtain ⟨h1, h2, h3⟩ := (h.mem u v).1 hm
    refine ⟨h1, ?_⟩
    rcases h3 with h3 | ⟨h3, h4⟩ <;> omega
  · simp

end Go.Proofs.Ytahnkecdningnaa

namespace Go.Proofs.Ytahnkecdningnaa
open Go Go.RowKit
attribute [local go_sem] World.cell?_alloc_some cell?_alloc2_some cell?_alloc3_some cell?_alloc4_some frozen?_alloc_some frozen?_alloc2_some frozen?_alloc3_some World.cell?_setCell_far new_ne0 new_ne1 new_ne2 new_ne3 lt2 lt3 lt4 lt5 lt6 lt7 lt8 lt9

/-- What the search of the reference keeps: the list so far, and old memory. -/
structure Sq (base : Nat) (n₀ : World) (v : Value) (l : List (Int × Int)) (wr : World) : Prop where
  g : GS wr base v l
  b : Below n₀.heap.size n₀ wr
  lo : n₀.heap.size ≤ base
  hi : base ≤ wr.heap.size
theorem Sq.below {base : Nat} {n₀ wr wx : World} {v : Value} {l : List (Int × Int)} (h : Sq base n₀ v l wr) (hk : Below wr.heap.size wr wx) : Sq base n₀ v l wx :=
  ⟨h.g.below hk, h.b.trans (hk.mono h.b.size), h.lo, by have := hk.size; have := h.hi; omega⟩
theorem Sq.app {base : Nat} {n₀ wr wx : World} {v v' : Value} {l l' : List (Int × Int)} (h : Sq base n₀ v l wr) (hg : GS wx base v' l') (hk : wr.grownBy wx v.ownBlock) : Sq base n₀ v' l' wx :=
  ⟨hg, h.b.trans ((grown_keep hk).below (fun b hb => h.g.ne (by have := h.lo; omega)) h.b.size), h.lo, by have := hk.size; have := h.hi; omega⟩
theorem Sq.c2 {base : Nat} {n₀ wr wx : World} {v : Value} {l : List (Int × Int)} {X : Nat} {x y : Value} (h : Sq base n₀ v l wr) (hk : wr.grownBy wx v.ownBlock) (hX : X < base) (t : C2 wr X x y) : C2 wx X x y :=
  t.keep (grown_keep hk) (h.g.ne hX)
theorem found_len {ok : Int → Int → Bool} {n a b : Int} {l : List (Int × Int)} (h : Found ok n a b l) (hn : n ≤ 2000) : l.length ≤ 2025 := by
  refine len_2025 h.sorted (fun u v hm => ?_)
  obtain ⟨h1, h2, h3⟩ := (h.mem u v).1 hm
  refine ⟨h1, ?_⟩
  rcases h3 with h3 | ⟨h3, h4⟩ <;> omega

theorem pgL_no {M : Int} (h : M < 2 ∨ 400 < M) : pgL M = [] := by
  have hp := pg_len M
  unfold pgL
  split
  · rename_i hM
    have hf := pg_found M.toNat 1 [] (by omega) (Found.start _ (by omega))
    rw [List.nil_append] at hf
    cases hl : pgFrom M.toNat 1 with
    | nil => rfl
    | cons p t =>
      exfalso
      obtain ⟨u, v⟩ := p
      obtain ⟨h1, h2, h3⟩ := (hf.mem u v).1 (by rw [hl]; exact List.mem_cons_self ..)
      have := pr_pos (prO_prI h2)
      rcases h3 with h3 | ⟨h3, h4⟩
      · omega
      · have := h1.1; have := h1.2; omega
  · rfl
theorem pgL_is {M : Int} (h2 : 0 ≤ M) (h : M ≤ 400) : Prs M (pgL M) := by
  rw [pgL, if_pos h]
  have hf := pg_found M.toNat 1 [] (by omega) (Found.start _ (by omega))
  rw [List.nil_append] at hf
  exact Found.all (by rw [show M + 1 = 1 + (M.toNat : Int) by omega]; exact hf)

end Go.Proofs.Ytahnkecdningnaa

namespace Go.Proofs.Ytahnkecdningnaa
open Go Go.RowKit
attribute [local go_sem] World.cell?_alloc_some cell?_alloc2_some cell?_alloc3_some cell?_alloc4_some frozen?_alloc_some frozen?_alloc2_some frozen?_alloc3_some World.cell?_setCell_far new_ne0 new_ne1 new_ne2 new_ne3 lt2 lt3 lt4 lt5 lt6 lt7 lt8 lt9

theorem l1In_dv (p : Int) (w : World) : Calls Try.prog 41 #[.int .i64 p, .int .i64 1, .int .i64 2000] w fun e w' => e = .returned (.bool (decide (1 ≤ p ∧ p ≤ 2000))) ∧ Below w.heap.size w w' :=
  (l1In p 1 2000 w).mono fun e w' ⟨h1, h2⟩ => ⟨h1, by subst h2; exact Below.refl _ _⟩
/-- The search's state, with the number in its box. -/
structure Sz (x y : Int) (n₀ : World) (v : Value) (l : List (Int × Int)) (wr : World) : Prop where
  q : Sq (n₀.heap.size + 1) n₀ v l wr
  z : C2 wr n₀.heap.size (.int .i64 x) (.int .i64 y)
theorem Sz.below {x y : Int} {n₀ wr wx : World} {v : Value} {l : List (Int × Int)} (h : Sz x y n₀ v l wr) (hk : Below wr.heap.size wr wx) : Sz x y n₀ v l wx := ⟨h.q.below hk, C2.K hk h.z⟩
theorem Sz.app {x y : Int} {n₀ wr wx : World} {v v' : Value} {l l' : List (Int × Int)} (h : Sz x y n₀ v l wr) (hg : GS wx (n₀.heap.size + 1) v' l') (hk : wr.grownBy wx v.ownBlock) : Sz x y n₀ v' l' wx := ⟨h.q.app hg hk, h.q.c2 hk (by omega) h.z⟩

end Go.Proofs.Ytahnkecdningnaa
