import Derived.Test.YtpjememmogaeiaaProg
import Derived.Test.YtpjememmogaeiaaYa
import Derived.Test.YtpjememmogaeiaaYb
import Derived.Test.YtpjememmogaeiaaOb
import Derived.Test.YtpjememmogaeiaaOd
import Derived.Deep.AppendLies
import Derived.RangeFuncNested
import Derived.Shelf.RegionOpen
import Derived.OwnWalkIn
import Derived.TacticsInMore
import Derived.Test.YtpjememmogaeiaaYi
import Derived.Test.YtpjememmogaeiaaJp
import Derived.Test.YtpjememmogaeiaaR
import Derived.Test.YtpjememmogaeiaaJq
namespace Go.Proofs.Ytpjememmogaeiaa
open Go Go.RowKit Go.Shelf
attribute [local go_sem] World.cell?_alloc_some cell?_alloc2_some cell?_alloc3_some cell?_alloc4_some frozen?_alloc_some frozen?_alloc2_some frozen?_alloc3_some World.cell?_setCell_far new_ne0 new_ne1 new_ne2 new_ne3 lt2 lt3 lt4 lt5 lt6 lt7 lt8 lt9

/-- The slice v holds the list l, in cells of its own from block 'base' on. -/
def GS (W : World) (base : Nat) (v : Value) (l : List (Int × Int)) : Prop := W.ownsRow base 24 2 v l.length (gCells l)
theorem GS.nil (W : World) (base : Nat) : GS W base (.slice none 0 0) [] := World.ownsRow_nil W base _ _
theorem GS.mono {W : World} {base base' : Nat} {v : Value} {l : List (Int × Int)} (h : GS W base v l) (hb : base' ≤ base) : GS W base' v l := by
  obtain ⟨h1, h2⟩ := h
  refine ⟨h1, h2.imp_right ?_⟩
  rintro ⟨g, cap, cur, hv, hg, rest⟩
  exact ⟨g, cap, cur, hv, by omega, rest⟩
theorem GS.kept {K : Nat → Prop} {W W' : World} {base : Nat} {v : Value} {l : List (Int × Int)} (h : GS W base v l) (hk : Keep K W W') (hv : ∀ g, v.ownBlock = some g → K g) : GS W' base v l := by
  obtain ⟨h1, h2⟩ := h
  refine ⟨h1, h2.imp_right ?_⟩
  rintro ⟨g, cap, cur, rfl, hg, hh, rest⟩
  exact ⟨g, cap, cur, rfl, hg, hk.heap (hv g rfl) hh, rest⟩
theorem GS.lt {W : World} {base : Nat} {v : Value} {l : List (Int × Int)} (h : GS W base v l) : ∀ g, v.ownBlock = some g → base ≤ g ∧ g < W.heap.size := World.ownsRow.lt h
theorem GS.below {W W' : World} {base : Nat} {v : Value} {l : List (Int × Int)} (h : GS W base v l) (hk : Below W.heap.size W W') : GS W' base v l := h.kept (Keep.of_below (fun _ => True) hk) (fun _ _ => trivial)
theorem GS.ne {W : World} {base X : Nat} {v : Value} {l : List (Int × Int)} (h : GS W base v l) (hX : X < base) : some X ≠ v.ownBlock := fun e => by
  have := (h.lt X e.symm).1; omega
theorem grown_keep {w w' : World} {row : Option Nat} (h : w.grownBy w' row) : Keep (fun b => some b ≠ row) w w' := Keep.grown h (fun _ h => h)

theorem gauss_info : (Try.prog.info? 24).map (fun i => (i.zero, i.size, i.bytes)) = some (some (.agg #[.int .i64 0, .int .i64 0]), 2, 16) := by kernel_rfl
theorem run_app (w : World) (ty : TypeId) (base : Nat) (v : Value) (l : List (Int × Int)) (p q : Int) (hown : GS w base v l) (X : Nat) (c0 : w.cell? ⟨X, 0, none⟩ = some (.int .i64 p)) (c1 : w.cell? ⟨X, 1, none⟩ = some (.int .i64 q)) (hl : l.length ≤ 8000000) (hbase : base ≤ w.heap.size) :
    ∃ g cap w', (Builtin.append_ #[33, 33] ty #[v, .slice (some ⟨X, 0, none⟩) 1 1]).run Try.prog w = .ok (.slice (some ⟨g, 0, none⟩) (l.length + 1) cap) w' ∧
      GS w' base (.slice (some ⟨g, 0, none⟩) (l.length + 1) cap) (l ++ [(p, q)]) ∧ w.grownBy w' v.ownBlock ∧ (v.ownBlock = some g ∨ g = w.heap.size) ∧ g < w'.heap.size := by
  obtain ⟨i, hi, hz0, hz1, hz2⟩ := info_parts gauss_info
  obtain ⟨g, cap, w', h1, h2, h3, h4, h5⟩ := run_append_lies (P := Try.prog) w 33 ty base 24 i _ 2 16 Try.underlying33 hi hz0 hz1 hz2 rfl (by decide) v l.length (gCells l) hown ⟨X, 0, none⟩ 1 1 [.int .i64 p, .int .i64 q] rfl
    (by
      intro j u hj
      have hadd : (⟨X, 0, none⟩ : Addr).add j = ⟨X, j, none⟩ := by unfold Addr.add; split <;> simp_all
      rw [hadd]
      match j, hj with
      | 0, hj => simp at hj; subst hj; exact c0
      | 1, hj => simp at hj; subst hj; exact c1)
    (by intro u hu; simp at hu; rcases hu with rfl | rfl <;> rfl) (by decide) (by unfold maxLen; omega) (by omega) hbase w.heap.size rfl
  refine ⟨g, cap, w', h1, ?_, h3, h4, h5⟩
  unfold GS
  rw [gCells_append, List.length_append]
  exact h2

theorem appIn {F : Fence} {n : Nat} (w : World) {ops : Array Oper} {rest : List Oper} {o : Oper} {a : Act} {Q : Exit → Act → World → Prop}
    (hg : o.guard = none) (s x : Operand) (hop : o.op = Op.call { callee := Callee.builtin Builtin.append, args := #[s, x], argTypes := #[33, 33] })
    (base : Nat) (v : Value) (l : List (Int × Int)) (p q : Int) (hs : a.eval s = v) (hown : GS w base v l) (X : Nat) (hx : a.eval x = .slice (some ⟨X, 0, none⟩) 1 1)
    (c0 : w.cell? ⟨X, 0, none⟩ = some (.int .i64 p)) (c1 : w.cell? ⟨X, 1, none⟩ = some (.int .i64 q)) (hl : l.length ≤ 8000000) (hbase : base ≤ w.heap.size)
    (hK : ∀ g cap w', GS w' base (.slice (some ⟨g, 0, none⟩) (l.length + 1) cap) (l ++ [(p, q)]) → w.grownBy w' v.ownBlock → (v.ownBlock = some g ∨ g = w.heap.size) → g < w'.heap.size → wpListIn F n Try.prog ops Q rest (a.put o.dst (.slice (some ⟨g, 0, none⟩) (l.length + 1) cap)) w') :
    wpListIn F n Try.prog ops Q (o :: rest) a w := by
  refine wpListIn_plain hg fun K hK' => ?_
  obtain ⟨g, cap, w', hrun, r1, r2, r3, r4⟩ := run_app w o.type base v l p q hown X c0 c1 hl hbase
  unfold Oper.wpIn
  refine ⟨?_, ?_⟩
  · simp [Oper.about, hop, resolve, Target.leads, Sem.run_pure]
  · rw [Oper.semAt_plain F _ _ (by rw [hop]; intro c hc'; cases hc')]
    simp [execOp, hop, resolve, invoke, builtin, hs, hx, hrun, Result.andThen]
    exact hK' _ _ (hK g cap w' r1 r2 r3 r4)
theorem appPl (w : World) {ops : Array Oper} {rest : List Oper} {o : Oper} {a : Act} {Q : Exit → Act → World → Prop}
    (hg : o.guard = none) (s x : Operand) (hop : o.op = Op.call { callee := Callee.builtin Builtin.append, args := #[s, x], argTypes := #[33, 33] })
    (base : Nat) (v : Value) (l : List (Int × Int)) (p q : Int) (hs : a.eval s = v) (hown : GS w base v l) (X : Nat) (hx : a.eval x = .slice (some ⟨X, 0, none⟩) 1 1)
    (c0 : w.cell? ⟨X, 0, none⟩ = some (.int .i64 p)) (c1 : w.cell? ⟨X, 1, none⟩ = some (.int .i64 q)) (hl : l.length ≤ 8000000) (hbase : base ≤ w.heap.size)
    (hK : ∀ g cap w', GS w' base (.slice (some ⟨g, 0, none⟩) (l.length + 1) cap) (l ++ [(p, q)]) → w.grownBy w' v.ownBlock → (v.ownBlock = some g ∨ g = w.heap.size) → g < w'.heap.size → wpList Try.prog ops Q rest (a.put o.dst (.slice (some ⟨g, 0, none⟩) (l.length + 1) cap)) w') :
    wpList Try.prog ops Q (o :: rest) a w := by
  refine wpList_plain hg fun K hK' => ?_
  obtain ⟨g, cap, w', hrun, r1, r2, r3, r4⟩ := run_app w o.type base v l p q hown X c0 c1 hl hbase
  unfold Oper.wp execOp
  simp only [hop, resolve, invoke, builtin, Sem.run_bind, Sem.run_pure, Result.andThen_ok, List.map_toArray, List.map_cons, List.map_nil, hs, hx, hrun]
  exact hK' _ _ (hK g cap w' r1 r2 r3 r4)
end Go.Proofs.Ytpjememmogaeiaa

namespace Go.Proofs.Ytpjememmogaeiaa
open Go Go.RowKit Go.Shelf
attribute [local go_sem] World.cell?_alloc_some cell?_alloc2_some cell?_alloc3_some cell?_alloc4_some frozen?_alloc_some frozen?_alloc2_some frozen?_alloc3_some World.cell?_setCell_far new_ne0 new_ne1 new_ne2 new_ne3 lt2 lt3 lt4 lt5 lt6 lt7 lt8 lt9
attribute [local go_sem] Oper.semAt_some

theorem row_at {L : List (Int × Int)} {k : Nat} {row : Array Value} (h : (L.map gRow)[k]? = some row) : ∃ a b, row = gRow (a, b) ∧ L[k]? = some (a, b) ∧ L.take (k + 1) = L.take k ++ [(a, b)] := by
  rw [List.getElem?_map, Option.map_eq_some_iff] at h
  obtain ⟨⟨a, b⟩, h1, rfl⟩ := h
  refine ⟨a, b, rfl, h1, ?_⟩
  rw [List.take_add_one, h1]; rfl
/-- Between two rounds: what was handed over so far, in order. -/
def Ai (n₀ : World) (L : List (Int × Int)) (i : Nat) (S : Nat → Prop) (W : World) : Prop := ∃ v, W.cell? ⟨n₀.heap.size, 0, none⟩ = some v ∧ W.frozen? ⟨n₀.heap.size, 0, none⟩ = false ∧ GS W (n₀.heap.size + 1) v (L.take i) ∧ (∀ g, v.ownBlock = some g → S g) ∧ Below n₀.heap.size n₀ W
set_option maxHeartbeats 4000000 in
theorem iAppendSeq (gf : Nat) (lb : Array Value) (L : List (Int × Int)) (C : Nat → Prop) (w : World) (eg : ∀ args w, (callFunc gf args).run Try.prog w = .ok (.enter gf args) w) (hit : IterG Try.prog gf lb (L.map gRow) C w) (hC : ∀ b, C b → b < w.heap.size) (hlen : L.length ≤ 8000000) :
    Calls Try.prog 68 #[.slice none 0 0, .func (.func gf) #[] lb] w fun e w' => ∃ v, e = .returned v ∧ GS w' w.heap.size v L ∧ Below w.heap.size w w' := by
  refine (callsIn_wide (n := 9)).1 ?_
  refine callsIn_of_wp_marks Try.func68 rfl trivial ?_ rfl
  simp only [Try.ntmps68, List.size_toArray, List.length_cons, List.length_nil, Nat.reduceAdd, Nat.reduceSub, Array.replicate_succ, Array.replicate_zero, List.push_toArray, List.append_toArray, List.nil_append, List.cons_append]
  refine wpIn_wide.2 ?_
  go_wp2_with fail
  refine (wpIn_wide (n := 9)).1 ?_
  refine wp_rangeG (xs := L.map gRow) rfl eg hit (fun b h => by have := hC b h; simp; omega) (Keep.of_below _ (by (repeat' (first | (with_reducible exact Below.refl _ _) | (with_reducible refine Below.alloc ?_ ?_ _) | (with_reducible refine Below.drew ?_) | (with_reducible refine Below.setCell ?_ ?_ _) | (with_reducible refine Below.trans ?_ (Below.mono (by assumption) ?_)) | go_size)))) (fun x hx => by obtain ⟨q, -, rfl⟩ := List.mem_map.1 hx; rfl)
    (Ai w L) (fun _ _ _ => False) ?hI (fun _ _ _ _ h _ => h) ?h0 ?round ?done (fun _ _ _ _ _ h => h.elim)
  case hI =>
    rintro i S A B ⟨v, c0, f0, hg, hv, hb⟩ hAB
    exact ⟨v, hAB.cell (.inl (by simp)) c0, hAB.frozen (.inl (by simp)) c0 f0, hg.kept hAB (fun g hg' => .inr (hv g hg')), hv, hb.trans (hAB.below (fun b hb => .inl (by simp; omega)) hb.size)⟩
  case h0 => exact ⟨_, by (repeat (first | (with_reducible assumption) | (with_reducible apply sameS) | ((with_reducible apply born); (focus (simp; done)); (focus rfl)) | (with_reducible apply keepA) | (with_reducible apply keepD) | ((with_reducible apply keepS); focus ((repeat (first | rw [World.size_alloc] | rw [World.size_setCell] | rw [World.size_drew])); omega)) | ((with_reducible apply keep); (focus (with_reducible assumption))))), by (repeat (first | (with_reducible assumption) | ((with_reducible apply bornF); (focus (simp; done))) | (with_reducible apply keepFS) | (with_reducible apply keepFD) | ((with_reducible apply keepFA); (focus (repeat (first | (with_reducible assumption) | (with_reducible apply sameS) | ((with_reducible apply born); (focus (simp; done)); (focus rfl)) | (with_reducible apply keepA) | (with_reducible apply keepD) | ((with_reducible apply keepS); focus ((repeat (first | rw [World.size_alloc] | rw [World.size_setCell] | rw [World.size_drew])); omega)) | ((with_reducible apply keep); (focus (with_reducible assumption))))))))), GS.nil _ _, fun g hg => by simp [Value.ownBlock] at hg, by (repeat' (first | (with_reducible exact Below.refl _ _) | (with_reducible refine Below.alloc ?_ ?_ _) | (with_reducible refine Below.drew ?_) | (with_reducible refine Below.setCell ?_ ?_ _) | (with_reducible refine Below.trans ?_ (Below.mono (by assumption) ?_)) | go_size))⟩
  case round =>
    rintro l i S row W hr ⟨v, c0, f0, hg, hv, hb⟩ hs hS
    obtain ⟨a, b, rfl, hat, htk⟩ := row_at hr
    simp only [World.size_alloc] at hs hS
    have hsz : w.heap.size < W.heap.size := by omega
    rw [gRow]
    gi_wp2
    refine ⟨(Keep.refl _ _).alloc _, ?_⟩
    intro W2 hs2 hk2
    rw [World.size_alloc] at hs2
    rw [World.size_alloc] at hk2
    have tV := hk2.t2 (b := W.heap.size) (x := .int .i64 a) (y := .int .i64 b) (.inr (by omega)) (by (repeat (first | ((with_reducible apply T2.mk) <;> (with_reducible assumption)) | (with_reducible apply T2.Z) | (with_reducible apply T2.O) | ((with_reducible apply T2.B); (focus (simp; done))) | (with_reducible apply T2.A) | (with_reducible apply T2.D) | ((with_reducible apply T2.S); focus ((repeat (first | rw [World.size_alloc] | rw [World.size_setCell] | rw [World.size_drew])); omega)) | ((with_reducible apply T2.K); (focus (with_reducible assumption))))))
    have c0' := hk2.cell (p := ⟨w.heap.size, 0, none⟩) (v := v) (.inl (by dsimp only; omega)) (by (repeat (first | (with_reducible assumption) | (with_reducible apply sameS) | ((with_reducible apply born); (focus (simp; done)); (focus rfl)) | (with_reducible apply keepA) | (with_reducible apply keepD) | ((with_reducible apply keepS); focus ((repeat (first | rw [World.size_alloc] | rw [World.size_setCell] | rw [World.size_drew])); omega)) | ((with_reducible apply keep); (focus (with_reducible assumption))))))
    have f0' := hk2.frozen (p := ⟨w.heap.size, 0, none⟩) (v := v) (.inl (by dsimp only; omega)) (by (repeat (first | (with_reducible assumption) | (with_reducible apply sameS) | ((with_reducible apply born); (focus (simp; done)); (focus rfl)) | (with_reducible apply keepA) | (with_reducible apply keepD) | ((with_reducible apply keepS); focus ((repeat (first | rw [World.size_alloc] | rw [World.size_setCell] | rw [World.size_drew])); omega)) | ((with_reducible apply keep); (focus (with_reducible assumption)))))) (by (repeat (first | (with_reducible assumption) | ((with_reducible apply bornF); (focus (simp; done))) | (with_reducible apply keepFS) | (with_reducible apply keepFD) | ((with_reducible apply keepFA); (focus (repeat (first | (with_reducible assumption) | (with_reducible apply sameS) | ((with_reducible apply born); (focus (simp; done)); (focus rfl)) | (with_reducible apply keepA) | (with_reducible apply keepD) | ((with_reducible apply keepS); focus ((repeat (first | rw [World.size_alloc] | rw [World.size_setCell] | rw [World.size_drew])); omega)) | ((with_reducible apply keep); (focus (with_reducible assumption))))))))))
    have hg2 := (hg.kept ((Keep.refl (fun _ => True) W).alloc _) (fun _ _ => trivial)).kept hk2 (fun g h => .inr (hS g (hv g h)).1)
    have hb' : Below w.heap.size w W2 := (hb.alloc (by omega) _).trans (hk2.below (fun b hb => .inl (by omega)) (by simp; omega))
    have hS2 : ∀ g, v.ownBlock = some g → S g ∧ w.heap.size + 1 + 2 ≤ g ∧ g < W.heap.size := fun g h => ⟨hv g h, hS g (hv g h)⟩
    clear c0 f0 hg hb
    obtain ⟨v0, v1, -, -⟩ := tV
    have HS := Lib.hid hs2
    clear hs2
    have hl2 : (L.take i).length ≤ 8000000 := by rw [List.length_take]; omega
    obtain ⟨T, hT⟩ : ∃ T, L.take i = T := ⟨_, rfl⟩
    rw [hT] at hl2 hg2 htk
    clear hT
    have hne : some w.heap.size ≠ v.ownBlock := hg2.ne (by omega)
    gi_wp2_with (gi_at_builtin; refine appIn _ rfl _ _ rfl (w.heap.size + 1) v T a b rfl (hg2.kept ((Keep.refl (fun _ => True) W2).alloc _) (fun _ _ => trivial)) W2.heap.size rfl (by (repeat (first | (with_reducible assumption) | (with_reducible apply sameS) | ((with_reducible apply born); (focus (simp; done)); (focus rfl)) | (with_reducible apply keepA) | (with_reducible apply keepD) | ((with_reducible apply keepS); focus ((repeat (first | rw [World.size_alloc] | rw [World.size_setCell] | rw [World.size_drew])); omega)) | ((with_reducible apply keep); (focus (with_reducible assumption)))))) (by (repeat (first | (with_reducible assumption) | (with_reducible apply sameS) | ((with_reducible apply born); (focus (simp; done)); (focus rfl)) | (with_reducible apply keepA) | (with_reducible apply keepD) | ((with_reducible apply keepS); focus ((repeat (first | rw [World.size_alloc] | rw [World.size_setCell] | rw [World.size_drew])); omega)) | ((with_reducible apply keep); (focus (with_reducible assumption)))))) hl2 (by have := HS.out; simp; omega) ?_; intro g cap W3 hg3 hgr hat3 hlt3; have hk3 := grown_keep hgr; have c3 := hk3.cell (p := ⟨w.heap.size, 0, none⟩) (v := v) hne (by (repeat (first | (with_reducible assumption) | (with_reducible apply sameS) | ((with_reducible apply born); (focus (simp; done)); (focus rfl)) | (with_reducible apply keepA) | (with_reducible apply keepD) | ((with_reducible apply keepS); focus ((repeat (first | rw [World.size_alloc] | rw [World.size_setCell] | rw [World.size_drew])); omega)) | ((with_reducible apply keep); (focus (with_reducible assumption)))))); have f3 := hk3.frozen (p := ⟨w.heap.size, 0, none⟩) (v := v) hne (by (repeat (first | (with_reducible assumption) | (with_reducible apply sameS) | ((with_reducible apply born); (focus (simp; done)); (focus rfl)) | (with_reducible apply keepA) | (with_reducible apply keepD) | ((with_reducible apply keepS); focus ((repeat (first | rw [World.size_alloc] | rw [World.size_setCell] | rw [World.size_drew])); omega)) | ((with_reducible apply keep); (focus (with_reducible assumption)))))) (by (repeat (first | (with_reducible assumption) | ((with_reducible apply bornF); (focus (simp; done))) | (with_reducible apply keepFS) | (with_reducible apply keepFD) | ((with_reducible apply keepFA); (focus (repeat (first | (with_reducible assumption) | (with_reducible apply sameS) | ((with_reducible apply born); (focus (simp; done)); (focus rfl)) | (with_reducible apply keepA) | (with_reducible apply keepD) | ((with_reducible apply keepS); focus ((repeat (first | rw [World.size_alloc] | rw [World.size_setCell] | rw [World.size_drew])); omega)) | ((with_reducible apply keep); (focus (with_reducible assumption)))))))))))
    have hs3 := hk3.size
    rw [World.size_alloc] at hs3
    have hgS : S g ∨ W.heap.size ≤ g := by
      rcases hat3 with h | h
      · exact .inl (hv g h)
      · rw [World.size_alloc] at h
        have := HS.out
        exact .inr (by omega)
    have hgw : w.heap.size ≠ g := by
      rcases hgS with h | h
      · have := (hS g h).1; omega
      · omega
    refine ⟨fun b => b = g, fun b h => by subst h; exact ⟨hgS, by simpa using hlt3⟩, ?_, .slice (some ⟨g, 0, none⟩) (T.length + 1) cap, by (repeat (first | (with_reducible assumption) | (with_reducible apply sameS) | ((with_reducible apply born); (focus (simp; done)); (focus rfl)) | (with_reducible apply keepA) | (with_reducible apply keepD) | ((with_reducible apply keepS); focus ((repeat (first | rw [World.size_alloc] | rw [World.size_setCell] | rw [World.size_drew])); omega)) | ((with_reducible apply keep); (focus (with_reducible assumption))))), by (repeat (first | (with_reducible assumption) | ((with_reducible apply bornF); (focus (simp; done))) | (with_reducible apply keepFS) | (with_reducible apply keepFD) | ((with_reducible apply keepFA); (focus (repeat (first | (with_reducible assumption) | (with_reducible apply sameS) | ((with_reducible apply born); (focus (simp; done)); (focus rfl)) | (with_reducible apply keepA) | (with_reducible apply keepD) | ((with_reducible apply keepS); focus ((repeat (first | rw [World.size_alloc] | rw [World.size_setCell] | rw [World.size_drew])); omega)) | ((with_reducible apply keep); (focus (with_reducible assumption))))))))), ?_, fun g' h => by simpa [Value.ownBlock] using h.symm, ?_⟩
    · refine Keep.setCell ?_ ?_ _
      · refine (Keep.alloc (Keep.refl _ _) _).trans (hk3.mono ?_)
        rintro b ⟨h1, h2, h3⟩ _ e
        exact h1 (hv b e.symm)
      · rintro ⟨h1, h2, h3⟩
        rcases h2 with h2 | h2
        · have := hC _ h2; dsimp only at this; omega
        · rw [World.size_alloc] at h2; dsimp only at h2; omega
    · rw [htk]
      have := hg3.kept (Keep.setCell (Keep.refl (fun b => b ≠ w.heap.size) W3) (p := ⟨w.heap.size, 0, none⟩) (fun h => h rfl) (.slice (some ⟨g, 0, none⟩) (T.length + 1) cap)) (fun g' h => by
        have : g' = g := by simpa [Value.ownBlock] using h.symm
        omega)
      exact this
    · refine Below.setCell ?_ (by dsimp only; omega) _
      refine (hb'.alloc (by have := HS.out; omega) _).trans (hk3.below (fun b hb => hg2.ne (by omega)) (by simp; have := HS.out; omega))
  case done =>
    rintro D S W hD ⟨v, c0, f0, hg, hv, hb⟩ hSD hK
    rw [List.length_map, List.take_length] at hg
    have HK := Lib.hid hK
    clear hK
    rw [World.size_alloc] at hD
    go_wp2_with fail
    refine mark_back v HK.out ?_ ?_
    · intro W' hW'
      simp [results, Try.results68, go_sem]
    · intro W' hk' hb'
      exact ⟨v, rfl, (hg.kept hk' (fun g h e => by have := hSD g (hv g h); omega)).mono (by omega), Below.trans hb (hb'.mono (by omega))⟩

theorem iCollect (gf : Nat) (lb : Array Value) (L : List (Int × Int)) (C : Nat → Prop) (w : World) (eg : ∀ args w, (callFunc gf args).run Try.prog w = .ok (.enter gf args) w) (hit : IterG Try.prog gf lb (L.map gRow) C w) (hC : ∀ b, C b → b < w.heap.size) (hlen : L.length ≤ 8000000) :
    Calls Try.prog 55 #[.func (.func gf) #[] lb] w fun e w' => ∃ v, e = .returned v ∧ GS w' w.heap.size v L ∧ Below w.heap.size w w' := by
  go_enter Try.func55, Try.ntmps55
  go_wp2_with fail
  refine (iAppendSeq gf lb L C _ eg hit hC hlen).mono ?_
  rintro e w1 ⟨v, rfl, hg, hb⟩
  go_wp2_with fail
  go_returns
  exact ⟨v, rfl, hg, hb⟩
end Go.Proofs.Ytpjememmogaeiaa

namespace Go.Proofs.Ytpjememmogaeiaa
open Go Go.RowKit Go.Shelf
attribute [local go_sem] World.cell?_alloc_some cell?_alloc2_some cell?_alloc3_some cell?_alloc4_some frozen?_alloc_some frozen?_alloc2_some frozen?_alloc3_some World.cell?_setCell_far new_ne0 new_ne1 new_ne2 new_ne3 lt2 lt3 lt4 lt5 lt6 lt7 lt8 lt9
attribute [local go_sem] Oper.semAt_some

/-- The marks of loops over functions among the deferred calls. -/
def mark (D : Nat) : Deferred := { target := .collected D, args := #[] }
theorem marks_back {P : Program} {n : Nat} {fn : Func} {tmps : Array Value} {R : Ending → World → Prop} (v : Value) : ∀ (Ds : List Nat) (W : World), Ds.Nodup → (∀ D ∈ Ds, W.heap[D]? = some (.deferred (some []))) →
    (∀ W' : World, Keep (fun b => b ∉ Ds) W W' → (results fn tmps).run P W' = .ok v W' ∧ R (.returned v) W') → LeavesInM Fence.wide n P fn tmps R (Ds.map mark) .returning W := by
  intro Ds
  induction Ds with
  | nil =>
    intro W _ _ h
    obtain ⟨h1, h2⟩ := h W (Keep.refl _ _)
    exact ⟨v, h1, h2⟩
  | cons D Ds ih =>
    intro W hn hd h
    obtain ⟨hD, hn'⟩ := List.nodup_cons.1 hn
    refine ⟨by simp, .inl ⟨D, _, rfl, run_takeDeferred (hd D (List.mem_cons_self ..)), ih _ hn' (fun D' h' => ?_) (fun W' hk => h W' ?_)⟩⟩
    · rw [World.putObj_heap_other (by rintro rfl; exact hD h')]
      exact hd D' (List.mem_cons_of_mem _ h')
    · refine (Keep.putObj W (fun h => h (List.mem_cons_self ..)) _).trans (hk.mono fun b hb _ h => hb (List.mem_cons_of_mem _ h))

/-- What an iterator that holds a loop over another one keeps: the caller's state, the number that it reads, the yield in its box, the marks. -/
structure Dq (W : World) (J : Nat → (Nat → Prop) → World → Prop) (a b : Int) (Bz l i : Nat) (S : Nat → Prop) (Ds : List Nat) (wr : World) : Prop where
  j : J i S wr
  z : C2 wr Bz (.int .i64 a) (.int .i64 b)
  zlt : Bz < W.heap.size
  x : wr.cell? ⟨W.heap.size, 0, none⟩ = some (.func (.yield l) #[] #[])
  s : ∀ b, S b → W.heap.size < b ∧ b < wr.heap.size
  nd : Ds.Nodup
  d : ∀ D ∈ Ds, W.heap.size < D ∧ D < wr.heap.size ∧ ¬ S D ∧ wr.heap[D]? = some (.deferred (some []))
  hs : W.heap.size < wr.heap.size
section
variable {W wr wx : World} {J J' : Nat → (Nat → Prop) → World → Prop} {a b : Int} {Bz l i i' : Nat} {S S' : Nat → Prop} {Ds : List Nat}
theorem C2.keep {K : Nat → Prop} {b : Nat} {x y : Value} (hk : Keep K wr wx) (hb : K b) (h : C2 wr b x y) : C2 wx b x y := ⟨hk.cell hb h.c0, hk.cell hb h.c1⟩
theorem Dq.keep {K : Nat → Prop} (h : Dq W J a b Bz l i S Ds wr) (hJ : ∀ k S A B, J k S A → Keep (fun b => b < W.heap.size ∨ S b) A B → J k S B) (hk : Keep K wr wx) (hK : ∀ b, b ≤ W.heap.size ∨ S b ∨ b ∈ Ds → K b) : Dq W J a b Bz l i S Ds wx := by
  have hz := h.zlt
  refine ⟨hJ _ _ _ _ h.j (hk.mono fun b hb _ => hK b (hb.elim (fun h => .inl (by omega)) (fun h => .inr (.inl h)))), h.z.keep hk (hK _ (.inl (by omega))), hz, hk.cell (hK _ (.inl (Nat.le_refl _))) h.x, fun b hb => ?_, h.nd, fun D hD => ?_, by have := h.hs; have := hk.size; omega⟩
  · have := h.s b hb; have := hk.size; omega
  · obtain ⟨h1, h2, h3, h4⟩ := h.d D hD
    exact ⟨h1, by have := hk.size; omega, h3, hk.heap (hK _ (.inr (.inr hD))) h4⟩
theorem Dq.below (h : Dq W J a b Bz l i S Ds wr) (hJ : ∀ k S A B, J k S A → Keep (fun b => b < W.heap.size ∨ S b) A B → J k S B) (hk : Below wr.heap.size wr wx) : Dq W J a b Bz l i S Ds wx := h.keep hJ (Keep.of_below (fun _ => True) hk) (fun _ _ => trivial)
theorem Dq.yield (h : Dq W J a b Bz l i S Ds wr) (hj : J' i' S' wx) (hS : ∀ b, S' b → (S b ∨ wr.heap.size ≤ b) ∧ b < wx.heap.size) (hk : Keep (fun b => ¬ S b ∧ (b = Bz ∨ W.heap.size ≤ b)) wr wx) : Dq W J' a b Bz l i' S' Ds wx := by
  have hz := h.zlt
  have hs := h.hs
  refine ⟨hj, h.z.keep hk ⟨fun h' => by have := (h.s _ h').1; omega, .inl rfl⟩, hz, hk.cell ⟨fun h' => by have := (h.s _ h').1; dsimp only at this; omega, .inr (Nat.le_refl _)⟩ h.x, fun b hb => ?_, h.nd, fun D hD => ?_, by have := hk.size; omega⟩
  · refine ⟨?_, (hS b hb).2⟩
    rcases (hS b hb).1 with h' | h'
    · exact (h.s b h').1
    · omega
  · obtain ⟨h1, h2, h3, h4⟩ := h.d D hD
    refine ⟨h1, by have := hk.size; omega, fun h' => ?_, hk.heap ⟨h3, .inr (by omega)⟩ h4⟩
    rcases (hS D h').1 with h'' | h''
    · exact h3 h''
    · omega
theorem Dq.more (h : Dq W J a b Bz l i S Ds wr) {D : Nat} (hD : wr.heap[D]? = some (.deferred (some []))) (h1 : ∀ D' ∈ Ds, D' < D) (h2 : W.heap.size < D) (h3 : ¬ S D) : Dq W J a b Bz l i S (D :: Ds) wr := by
  refine ⟨h.j, h.z, h.zlt, h.x, h.s, List.nodup_cons.2 ⟨fun h' => Nat.lt_irrefl _ (h1 D h'), h.nd⟩, fun D' hD' => ?_, h.hs⟩
  rcases List.mem_cons.1 hD' with rfl | h'
  · exact ⟨h2, (Array.getElem?_eq_some_iff.1 hD).1, h3, hD⟩
  · exact h.d D' h'
/-- Behind the last mark the caller's state is as it was. -/
theorem Dq.out (h : Dq W J a b Bz l i S Ds wr) (hJ : ∀ k S A B, J k S A → Keep (fun b => b < W.heap.size ∨ S b) A B → J k S B) (hk : Keep (fun b => b ∉ Ds) wr wx) : J i S wx ∧ W.heap.size ≤ wx.heap.size := by
  refine ⟨hJ _ _ _ _ h.j (hk.mono fun b hb _ hD => ?_), by have := h.hs; have := hk.size; omega⟩
  obtain ⟨h1, h2, h3, -⟩ := h.d b hD
  rcases hb with h' | h'
  · omega
  · exact h3 h'
end
theorem filter_next {L : List (Int × Int)} {m : Nat} {q : Int × Int} (ok : Int × Int → Bool) (h : L[m]? = some q) : (L.drop m).filter ok = if ok q then q :: (L.drop (m + 1)).filter ok else (L.drop (m + 1)).filter ok := by
  obtain ⟨hl, he⟩ := List.getElem?_eq_some_iff.1 h
  rw [List.drop_eq_getElem_cons hl, he, List.filter_cons]
end Go.Proofs.Ytpjememmogaeiaa

namespace Go.Proofs.Ytpjememmogaeiaa
open Go Go.RowKit Go.Shelf
attribute [local go_sem] World.cell?_alloc_some cell?_alloc2_some cell?_alloc3_some cell?_alloc4_some frozen?_alloc_some frozen?_alloc2_some frozen?_alloc3_some World.cell?_setCell_far new_ne0 new_ne1 new_ne2 new_ne3 lt2 lt3 lt4 lt5 lt6 lt7 lt8 lt9
attribute [local go_sem] Oper.semAt_some

/-- Between two norms. -/
def Do (W : World) (J : Nat → (Nat → Prop) → World → Prop) (xs : List (Array Value)) (a b N : Int) (Bz l : Nat) (v : Value) (ds : List Deferred) (wr : World) : Prop :=
  ∃ (i k n : Nat) (S : Nat → Prop) (Ds : List Nat), v = .int .i64 (n : Int) ∧ 1 ≤ n ∧ (n : Int) + k = N + 1 ∧ i ≤ xs.length ∧ xs.drop i = (dvFrom a b k n).map gRow ∧ ds = Ds.map mark ∧ Dq W J a b Bz l i S Ds wr
/-- Between two numbers of one norm. -/
def Dn (W : World) (J : Nat → (Nat → Prop) → World → Prop) (xs : List (Array Value)) (a b : Int) (Bz l pre k n : Nat) (Ds : List Nat) (m : Nat) (Si : Nat → Prop) (wr : World) : Prop :=
  ∃ (i : Nat) (S : Nat → Prop), i ≤ xs.length ∧ xs.drop i = (((circ n).drop m).filter (fun p => vdO p.1 p.2 a b) ++ dvFrom a b k ((n : Int) + 1)).map gRow ∧ (∀ b, S b → Si b ∨ b < pre) ∧ Dq W J a b Bz l i S Ds wr
def Dx (W : World) (Jx : Nat → (Nat → Prop) → World → Prop) (a b : Int) (Bz l pre : Nat) (Ds : List Nat) (c : Code) (Si : Nat → Prop) (wr : World) : Prop :=
  c = .ret ∧ ∃ (i : Nat) (S : Nat → Prop), (∀ b, S b → Si b ∨ b < pre) ∧ Dq W Jx a b Bz l i S Ds wr

set_option maxHeartbeats 8000000 in
theorem divisors_gives (a b : Int) (Bz : Nat) (w : World) (k : gok a b = true) (hN : a * a + b * b ≤ 2000) (hc : C2 w Bz (.int .i64 a) (.int .i64 b)) :
    IterG Try.prog 69 #[.pointer (some ⟨Bz, 0, none⟩)] ((dvFrom a b (a * a + b * b).toNat 1).map gRow) (fun x => x = Bz) w := by
  intro l J Jx W hk0 hJ hJx hY h0
  have hz := hc.keep hk0 rfl
  have hBz : Bz < W.heap.size := World.block_lt_of_cell? _ _ hz.c0
  obtain ⟨N, hNN⟩ : ∃ N, a * a + b * b = N := ⟨_, rfl⟩
  obtain ⟨s1, s2, s3, s4⟩ := sq_bd k
  have hN0 : 0 ≤ N := by omega
  rw [hNN] at hN hY ⊢
  obtain ⟨xs, hxs⟩ : ∃ xs, (dvFrom a b N.toNat 1).map gRow = xs := ⟨_, rfl⟩
  rw [hxs] at hY ⊢
  refine callsIn_of_wp_marks Try.func69 rfl trivial ?_ rfl
  simp only [Try.ntmps69, List.size_toArray, List.length_cons, List.length_nil, Nat.reduceAdd, Nat.reduceSub, Array.replicate_succ, Array.replicate_zero, List.push_toArray, List.append_toArray, List.nil_append, List.cons_append]
  refine wpIn_wide.2 ?_
  obtain ⟨z0, z1⟩ := hz
  go_wp2_with fail
  (refine (igNorm_v _ k hNN).mono ?_; rintro e w1 ⟨rfl, hb1⟩; have hz1 := hb1.size; (repeat (first | rw [World.size_alloc] at hz1 | rw [World.size_setCell] at hz1 | rw [World.size_drew] at hz1)); have pp := C2.K hb1 (b := Bz) (x := _) (y := _) (by (repeat (first | ((with_reducible apply C2.mk) <;> (with_reducible assumption)) | (with_reducible apply C2.Z) | (with_reducible apply C2.O) | ((with_reducible apply C2.B); (focus (simp; done))) | (with_reducible apply C2.A) | (with_reducible apply C2.D) | ((with_reducible apply C2.S); focus ((repeat (first | rw [World.size_alloc] | rw [World.size_setCell] | rw [World.size_drew])); omega)) | ((with_reducible apply C2.K); (focus (with_reducible assumption)))))); obtain ⟨kk1, kk2⟩ := pp; have kk3 := keep hb1 (a := ⟨W.heap.size, 0, none⟩) (v := _) (by (repeat (first | (with_reducible assumption) | (with_reducible apply sameS) | ((with_reducible apply born); (focus (simp; done)); (focus rfl)) | (with_reducible apply keepA) | (with_reducible apply keepD) | ((with_reducible apply keepS); focus ((repeat (first | rw [World.size_alloc] | rw [World.size_setCell] | rw [World.size_drew])); omega)) | ((with_reducible apply keep); (focus (with_reducible assumption)))))))
  go_wp2_with fail
  have hq0 : Dq W J a b Bz l 0 (fun _ => False) [] w1 := ⟨hJ _ _ _ _ h0 (Keep.of_below _ (by (repeat' (first | (with_reducible exact Below.refl _ _) | (with_reducible refine Below.alloc ?_ ?_ _) | (with_reducible refine Below.drew ?_) | (with_reducible refine Below.setCell ?_ ?_ _) | (with_reducible refine Below.trans ?_ (Below.mono (by assumption) ?_)) | go_size)))), C2.mk (by (repeat (first | (with_reducible assumption) | (with_reducible apply sameS) | ((with_reducible apply born); (focus (simp; done)); (focus rfl)) | (with_reducible apply keepA) | (with_reducible apply keepD) | ((with_reducible apply keepS); focus ((repeat (first | rw [World.size_alloc] | rw [World.size_setCell] | rw [World.size_drew])); omega)) | ((with_reducible apply keep); (focus (with_reducible assumption)))))) (by (repeat (first | (with_reducible assumption) | (with_reducible apply sameS) | ((with_reducible apply born); (focus (simp; done)); (focus rfl)) | (with_reducible apply keepA) | (with_reducible apply keepD) | ((with_reducible apply keepS); focus ((repeat (first | rw [World.size_alloc] | rw [World.size_setCell] | rw [World.size_drew])); omega)) | ((with_reducible apply keep); (focus (with_reducible assumption)))))), hBz, by (repeat (first | (with_reducible assumption) | (with_reducible apply sameS) | ((with_reducible apply born); (focus (simp; done)); (focus rfl)) | (with_reducible apply keepA) | (with_reducible apply keepD) | ((with_reducible apply keepS); focus ((repeat (first | rw [World.size_alloc] | rw [World.size_setCell] | rw [World.size_drew])); omega)) | ((with_reducible apply keep); (focus (with_reducible assumption))))), fun _ h => h.elim, List.nodup_nil, fun D h => (by cases h), by omega⟩
  have HX := Lib.hid hxs
  clear h0 hk0 hc z0 z1 hxs hz1 hb1
  refine wp_loop (fun a' w' => ∃ u4 u5 u6 u7 u8 u9 u10 u11 u12 u13 u14 u15 u16 u17 u18 u19 u20 u21 u22 u23 u24 u25 u26 u27 u28, Do W J xs a b N Bz l u4 a'.defers w' ∧ a' = { tmps := #[.func (.yield l) #[] #[], .pointer (some ⟨Bz, 0, none⟩), .pointer (some ⟨W.heap.size, 0, none⟩), .int .i64 N, u4, u5, u6, u7, u8, u9, u10, u11, u12, u13, u14, u15, u16, u17, u18, u19, u20, u21, u22, u23, u24, u25, u26, u27, u28], defers := a'.defers }) (fun a' _ => 3000 - (intOf (a'.tmps.getD 4 undef)).toNat) ?_ ?_
  · refine ⟨_, _, _, _, _, _, _, _, _, _, _, _, _, _, _, _, _, _, _, _, _, _, _, _, _, ⟨0, N.toNat, 1, fun _ => False, [], rfl, by omega, by omega, Nat.zero_le _, by rw [List.drop_zero]; exact HX.out.symm, rfl, hq0⟩, rfl⟩
  · clear hq0
    rintro a' wr ⟨u4, u5, u6, u7, u8, u9, u10, u11, u12, u13, u14, u15, u16, u17, u18, u19, u20, u21, u22, u23, u24, u25, u26, u27, u28, ⟨i, k, n, S, Ds, rfl, h1, hkn, hil, hdr, hds, hq⟩, ha⟩
    rw [hds] at ha
    subst ha
    clear hds
    dsimp only
    have hsr := hq.hs
    obtain ⟨z0, z1⟩ := hq.z
    have hx := hq.x
    cases k with
    | zero =>
      have hd1 : decide ((n : Int) ≤ N) = false := decide_eq_false (by omega)
      have hi := drop_end hil hdr
      subst hi
      go_wp2_with fail
      show LeavesInM _ _ _ _ _ _ (Ds.map mark) _ _
      refine marks_back (.tuple #[]) Ds _ hq.nd (fun D hD => (hq.d D hD).2.2.2) (fun W' hk => ⟨?_, ?_⟩)
      · simp [results, Try.results69, go_sem]
      · obtain ⟨o1, o2⟩ := hq.out hJ hk
        exact ⟨⟨_, rfl⟩, o2, .inl ⟨S, o1⟩⟩
    | succ k =>
      have hn2000 : n ≤ 2000 := by omega
      have hd1 : decide ((n : Int) ≤ N) = true := decide_eq_true (by omega)
      have hn0 : ((n : Int) == 0) = false := by simp; omega
      have hxb : -2000 ≤ N % n ∧ N % n ≤ 2000 := by
        have := Int.emod_nonneg N (show (n : Int) ≠ 0 by omega)
        have := Int.emod_lt_of_pos N (show 0 < (n : Int) by omega)
        omega
      obtain ⟨hx1, hx2⟩ := hxb
      by_cases hm : N % n = 0
      · have hm1 : (N % n == 0) = true := by simpa using hm
        have hm2 : (N % n != 0) = false := by simpa using hm
        have hdr' : xs.drop i = (((circ n).drop 0).filter (fun p => vdO p.1 p.2 a b) ++ dvFrom a b k ((n : Int) + 1)).map gRow := by
          rw [hdr, dvFrom, hNN, if_pos hm, List.drop_zero]
        clear hdr z0 z1 hx
        go_wp2_with fail
        (refine (iOnCircle n _).mono ?_; rintro e w2 ⟨Bn, rfl, cB, hB, hb2⟩; have hz2 := hb2.size; (repeat (first | rw [World.size_alloc] at hz2 | rw [World.size_setCell] at hz2 | rw [World.size_drew] at hz2)); (try clear kk1 kk2 kk3))
        have hq2 := hq.below hJ hb2
        have hSp : ∀ b, S b → b < wr.heap.size := fun b h => (hq.s b h).2
        clear hq
        have hBn : Bn < w2.heap.size := World.block_lt_of_cell? _ _ cB
        go_wp2_with fail
        refine (wpIn_wide (n := 9)).1 ?_
        have G := onCircle_gives n Bn w2 (by omega) cB
        refine wp_rangeG (xs := (circ n).map gRow) rfl (enters_of Try.func70 (by kernel_rfl) rfl) G (fun b h => h ▸ hBn) (Keep.refl _ _) (fun x hx => by obtain ⟨q, -, rfl⟩ := List.mem_map.1 hx; rfl)
          (Dn W J xs a b Bz l wr.heap.size k n Ds) (Dx W Jx a b Bz l wr.heap.size Ds) ?hI ?hIx ?h0 ?round ?done ?stop
        case hI =>
          rintro m Si A B ⟨i, S, h1, h2, h3, hq⟩ hAB
          exact ⟨i, S, h1, h2, h3, hq.keep hJ hAB (fun b h => by
            rcases h with h | h | h
            · exact .inl (by have := hq2.hs; omega)
            · rcases h3 b h with h | h
              · exact .inr h
              · exact .inl (by have := hb2.size; omega)
            · exact .inl (hq2.d b h).2.1)⟩
        case hIx =>
          rintro c Si A B ⟨hc, i, S, h3, hq⟩ hAB
          exact ⟨hc, i, S, h3, hq.keep hJx hAB (fun b h => by
            rcases h with h | h | h
            · exact .inl (by have := hq2.hs; omega)
            · rcases h3 b h with h | h
              · exact .inr h
              · exact .inl (by have := hb2.size; omega)
            · exact .inl (hq2.d b h).2.1)⟩
        case h0 => exact ⟨i, S, hil, hdr', fun b h => .inr (hSp b h), hq2⟩
        case round =>
          rintro l' m Si row Wr hr ⟨i, S, hil, hdr, hSS, hq⟩ hs hSi
          obtain ⟨p, q, rfl, hat, -⟩ := row_at hr
          have hfil := filter_next (fun p => vdO p.1 p.2 a b) hat
          dsimp only at hfil
          rw [hfil] at hdr
          rw [gRow]
          gi_wp2
          refine ⟨(Keep.refl _ _).alloc _, ?_⟩
          intro W2 hs2 hk2
          rw [World.size_alloc] at hs2
          have tV := hk2.t2 (b := Wr.heap.size) (x := .int .i64 p) (y := .int .i64 q) (.inr (by omega)) (by (repeat (first | ((with_reducible apply T2.mk) <;> (with_reducible assumption)) | (with_reducible apply T2.Z) | (with_reducible apply T2.O) | ((with_reducible apply T2.B); (focus (simp; done))) | (with_reducible apply T2.A) | (with_reducible apply T2.D) | ((with_reducible apply T2.S); focus ((repeat (first | rw [World.size_alloc] | rw [World.size_setCell] | rw [World.size_drew])); omega)) | ((with_reducible apply T2.K); (focus (with_reducible assumption))))))
          have hqA := (hq.below hJ (wx := Wr.alloc (.cells #[.int .i64 p, .int .i64 q] 24)) (by (repeat' (first | (with_reducible exact Below.refl _ _) | (with_reducible refine Below.alloc ?_ ?_ _) | (with_reducible refine Below.drew ?_) | (with_reducible refine Below.setCell ?_ ?_ _) | (with_reducible refine Below.trans ?_ (Below.mono (by assumption) ?_)) | go_size)))).keep hJ hk2 (fun b h => by
            rcases h with h | h | h
            · exact .inl (by have := hq2.hs; omega)
            · rcases hSS b h with h | h
              · exact .inr (hSi b h).1
              · exact .inl (by have := hb2.size; omega)
            · exact .inl (hq2.d b h).2.1)
          have HS := Lib.hid hs2
          clear hq hfil hs2 hk2
          obtain ⟨v0, v1, -, -⟩ := tV
          obtain ⟨z0, z1⟩ := hqA.z
          have hx := hqA.x
          obtain ⟨o, ho⟩ : ∃ o, vdO p q a b = o := ⟨_, rfl⟩
          rw [ho] at hdr
          gi_wp2_with fail
          refine ⟨trivial, ?_⟩
          refine (CallsIn.inRound l' (callsIn_wide.2 (iDividesOk_v _ ho))).mono ?_
          rintro e W3 ⟨rfl, hb3⟩
          have hz3 := hb3.size
          have c0 := keep hb3 v0
          have c1 := keep hb3 v1
          have cx := keep hb3 hx
          have hqB := hqA.below hJ hb3
          clear v0 v1 z0 z1 hx hqA
          have hS3 : ∀ b, S b → (Si b ∨ b < wr.heap.size) ∧ b < W3.heap.size := fun b h => ⟨hSS b h, (hqB.s b h).2⟩
          cases o
          · gi_wp2
            refine ⟨fun f h => (by cases h), ?_⟩
            gi_wp2
            refine ⟨Si, fun b h => ⟨.inl h, ?_⟩, Keep.of_below _ hb3, i, S, hil, by simpa using hdr, hSS, hqB⟩
            have := (hSi b h).2
            have := HS.out
            omega
          · rw [if_pos rfl, List.cons_append, List.map_cons] at hdr
            obtain ⟨hxi, hdr2⟩ := drop_cons hdr
            have hl1 : i + 1 ≤ xs.length := by have := (List.getElem?_eq_some_iff.1 hxi).1; omega
            obtain ⟨fn, tmps, assign, body, hy, hR⟩ := hY i S _ W3 hxi hqB.j (Nat.le_of_lt hqB.hs) (fun b h => ⟨Nat.le_of_lt (hqB.s b h).1, (hqB.s b h).2⟩)
            rw [gRow] at hy
            gi_wp2
            refine (round_any hR).mono ?_
            rintro e W4 ⟨c, S', rfl, hc, hS', hk4⟩
            have hs4 := hk4.size
            have hSS' : ∀ b, S' b → (S' b ∧ w2.heap.size ≤ b) ∨ b < wr.heap.size := fun b h => by
              rcases Nat.lt_or_ge b w2.heap.size with h' | h'
              · rcases (hS' b h).1 with h'' | h''
                · rcases hSS b h'' with h3 | h3
                  · have := (hSi b h3).1; omega
                  · exact .inr h3
                · have := HS.out; omega
              · exact .inl ⟨h, h'⟩
            have hSn : ∀ b, S' b ∧ w2.heap.size ≤ b → (Si b ∨ Wr.heap.size ≤ b) ∧ b < W4.heap.size := fun b ⟨h, h'⟩ => by
              refine ⟨?_, (hS' b h).2⟩
              rcases (hS' b h).1 with h'' | h''
              · rcases hSS b h'' with h3 | h3
                · exact .inl h3
                · have := hb2.size; omega
              · exact .inr (by have := HS.out; omega)
            have hkn : Keep (fun b => ¬ Si b ∧ (b = Bn ∨ w2.heap.size ≤ b) ∧ b < Wr.heap.size) W2 W4 := by
              refine (Keep.of_below _ hb3).trans (hk4.mono ?_)
              rintro b ⟨g1, g2, g3⟩ -
              refine ⟨fun h => ?_, .inr ?_⟩
              · rcases hSS b h with h3 | h3
                · exact g1 h3
                · have := hb2.size; omega
              · have := hq2.hs; have := hsr; omega
            clear hy hR hxi
            cases c
            · have hq' := hqB.yield (J' := Jx) (i' := i) hc hS' hk4
              gi_wp2
              exact ⟨fun b => S' b ∧ w2.heap.size ≤ b, hSn, hkn, rfl, i, S', hSS', hq'⟩
            · have hq' := hqB.yield (J' := J) (i' := i + 1) hc hS' hk4
              gi_wp2
              exact ⟨fun b => S' b ∧ w2.heap.size ≤ b, hSn, hkn, i + 1, S', hl1, hdr2, hSS', hq'⟩
        case done =>
          rintro D Si Wd hD ⟨i, S, hil, hdr, hSS, hq⟩ hSD hK
          rw [List.length_map, List.drop_length] at hdr
          have hq' := hq.more hK (fun D' h => by have := (hq2.d D' h).2.1; omega) (by have := hq2.hs; omega) (fun h => by
            rcases hSS D h with h3 | h3
            · have := hSD D h3; omega
            · have := hb2.size; omega)
          clear hK
          gi_wp2
          go_wp2_with fail
          exact ⟨⟨i, k, n + 1, S, D :: Ds, by simp, by omega, by omega, hil, by rw [hdr]; simp, rfl, hq'⟩, by simp [intOf]; omega⟩
        case stop =>
          rintro D c Si Wd hD ⟨rfl, i, S, hSS, hq⟩ hSD hK
          have hq' := hq.more hK (fun D' h => by have := (hq2.d D' h).2.1; omega) (by have := hq2.hs; omega) (fun h => by
            rcases hSS D h with h3 | h3
            · have := hSD D h3; omega
            · have := hb2.size; omega)
          gi_wp2
          show LeavesInM _ _ _ _ _ _ ((D :: Ds).map mark) _ _
          refine marks_back (.tuple #[]) (D :: Ds) _ hq'.nd (fun D' hD' => (hq'.d D' hD').2.2.2) (fun W' hk => ⟨?_, ?_⟩)
          · simp [results, Try.results69, go_sem]
          · obtain ⟨o1, o2⟩ := hq'.out hJx hk
            exact ⟨⟨_, rfl⟩, o2, .inr ⟨i, S, o1⟩⟩
      · have hm1 : (N % n == 0) = false := by simpa using hm
        have hm2 : (N % n != 0) = true := by simpa using hm
        have hdr' : xs.drop i = (dvFrom a b k ((n : Int) + 1)).map gRow := by
          rw [hdr, dvFrom, hNN, if_neg hm, List.nil_append]
        go_wp2_with fail
        exact ⟨⟨i, k, n + 1, S, Ds, by simp, by omega, by omega, hil, by rw [hdr']; simp, rfl, hq⟩, by simp [intOf]; omega⟩
end Go.Proofs.Ytpjememmogaeiaa

namespace Go.Proofs.Ytpjememmogaeiaa
open Go Go.RowKit Go.Shelf
attribute [local go_sem] World.cell?_alloc_some cell?_alloc2_some cell?_alloc3_some cell?_alloc4_some frozen?_alloc_some frozen?_alloc2_some frozen?_alloc3_some World.cell?_setCell_far new_ne0 new_ne1 new_ne2 new_ne3 lt2 lt3 lt4 lt5 lt6 lt7 lt8 lt9

theorem iDivisors (a b : Int) (w : World) : Calls Try.prog 56 #[.agg #[.int .i64 a, .int .i64 b]] w fun e w' => ∃ Bz, e = .returned (.func (.func 69) #[] #[.pointer (some ⟨Bz, 0, none⟩)]) ∧ C2 w' Bz (.int .i64 a) (.int .i64 b) ∧ Below w.heap.size w w' := by
  go_enter Try.func56, Try.ntmps56
  go_wp2_with fail
  go_returns
  exact ⟨_, rfl, (by (repeat (first | ((with_reducible apply C2.mk) <;> (with_reducible assumption)) | (with_reducible apply C2.Z) | (with_reducible apply C2.O) | ((with_reducible apply C2.B); (focus (simp; done))) | (with_reducible apply C2.A) | (with_reducible apply C2.D) | ((with_reducible apply C2.S); focus ((repeat (first | rw [World.size_alloc] | rw [World.size_setCell] | rw [World.size_drew])); omega)) | ((with_reducible apply C2.K); (focus (with_reducible assumption)))))), by (repeat' (first | (with_reducible exact Below.refl _ _) | (with_reducible refine Below.alloc ?_ ?_ _) | (with_reducible refine Below.drew ?_) | (with_reducible refine Below.setCell ?_ ?_ _) | (with_reducible refine Below.trans ?_ (Below.mono (by assumption) ?_)) | go_size))⟩

/-- The divisors that are told. -/
def dvL (a b : Int) : List (Int × Int) := if gok a b = true ∧ 1 ≤ a * a + b * b ∧ a * a + b * b ≤ 2000 then dvFrom a b (a * a + b * b).toNat 1 else []
def grid : List (Int × Int) := (List.range 45).flatMap fun u : Nat => (List.range 45).map fun v : Nat => ((u : Int), (v : Int))
theorem grid_len : grid.length = 2025 := by kernel_rfl
theorem mem_grid {u v : Int} (h1 : 0 ≤ u) (h2 : u ≤ 44) (h3 : 0 ≤ v) (h4 : v ≤ 44) : (u, v) ∈ grid := by
  obtain ⟨u', rfl⟩ := Int.eq_ofNat_of_zero_le h1
  obtain ⟨v', rfl⟩ := Int.eq_ofNat_of_zero_le h3
  exact List.mem_flatMap.2 ⟨u', List.mem_range.2 (by omega), List.mem_map.2 ⟨v', List.mem_range.2 (by omega), rfl⟩⟩
/-- A list in order of numbers of the first quarter with small norms is short. -/
theorem len_2025 {l : List (Int × Int)} (hs : l.Pairwise ltD) (h : ∀ u v, (u, v) ∈ l → fqP u v ∧ u * u + v * v ≤ 2000) : l.length ≤ 2025 := by
  have hnd : l.Nodup := hs.imp (fun hpq e => by subst e; exact ltD_irr _ hpq)
  have hsub : l ⊆ grid := by
    rintro ⟨u, v⟩ hp
    obtain ⟨⟨h1, h2⟩, h3⟩ := h u v hp
    have := sq_nn v
    have := sq_nn u
    exact mem_grid (by omega) (sq_le_44 (by omega)) h2 (sq_le_44 (by omega))
  have := List.Nodup.length_le_of_subset hnd hsub
  rw [grid_len] at this
  exact this
theorem dvL_no {a b : Int} (h : nrm a b < 1 ∨ 2000 < nrm a b) : dvL a b = [] := by
  unfold dvL
  by_cases k : gok a b = true
  · rw [nrm_t k] at h
    rw [if_neg (by omega)]
  · rw [if_neg (fun h => k h.1)]
theorem dvL_yes {a b : Int} (h1 : 1 ≤ nrm a b) (h2 : nrm a b ≤ 2000) : gok a b = true ∧ nrm a b = a * a + b * b ∧ dvL a b = dvFrom a b (a * a + b * b).toNat 1 ∧ Dvs a b (dvL a b) ∧ ¬ (a = 0 ∧ b = 0) ∧ (dvL a b).length ≤ 2025 := by
  have k : gok a b = true := by
    cases k : gok a b
    · simp [nrm, k] at h1
    · rfl
  have e := nrm_t k
  rw [e] at h1 h2
  have hz : ¬ (a = 0 ∧ b = 0) := by rintro ⟨rfl, rfl⟩; omega
  have hd : dvL a b = dvFrom a b (a * a + b * b).toNat 1 := by rw [dvL, if_pos ⟨k, h1, h2⟩]
  have hv := dv_list hz h2
  refine ⟨k, e, hd, by rw [hd]; exact hv, hz, ?_⟩
  rw [hd]
  exact len_2025 hv.sorted (fun u v h => by obtain ⟨q1, -, q3⟩ := (hv.mem u v).1 h; exact ⟨q1, by omega⟩)
set_option maxHeartbeats 1000000 in
theorem iDivisorsOf (a b : Int) (w : World) : Calls Try.prog 21 #[.agg #[.int .i64 a, .int .i64 b]] w fun e w' => ∃ v, e = .returned v ∧ GS w' w.heap.size v (dvL a b) ∧ Below w.heap.size w w' := by
  obtain ⟨n, hn⟩ : ∃ n, nrm a b = n := ⟨_, rfl⟩
  by_cases h1 : n < 1
  · rw [dvL_no (.inl (by omega))]
    go_enter Try.func21, Try.ntmps21
    go_wp2_with fail
    (refine (iNormOf_v _ hn).mono ?_; rintro e w1 ⟨rfl, hb1⟩; have hz1 := hb1.size; (repeat (first | rw [World.size_alloc] at hz1 | rw [World.size_setCell] at hz1 | rw [World.size_drew] at hz1)); have pp := C2.K hb1 (b := w.heap.size) (x := _) (y := _) (by (repeat (first | ((with_reducible apply C2.mk) <;> (with_reducible assumption)) | (with_reducible apply C2.Z) | (with_reducible apply C2.O) | ((with_reducible apply C2.B); (focus (simp; done))) | (with_reducible apply C2.A) | (with_reducible apply C2.D) | ((with_reducible apply C2.S); focus ((repeat (first | rw [World.size_alloc] | rw [World.size_setCell] | rw [World.size_drew])); omega)) | ((with_reducible apply C2.K); (focus (with_reducible assumption)))))); obtain ⟨kk1, kk2⟩ := pp)
    go_wp2_with fail
    go_returns
    exact ⟨_, rfl, GS.nil _ _, by (repeat' (first | (with_reducible exact Below.refl _ _) | (with_reducible refine Below.alloc ?_ ?_ _) | (with_reducible refine Below.drew ?_) | (with_reducible refine Below.setCell ?_ ?_ _) | (with_reducible refine Below.trans ?_ (Below.mono (by assumption) ?_)) | go_size))⟩
  by_cases h2 : 2000 < n
  · rw [dvL_no (.inr (by omega))]
    go_enter Try.func21, Try.ntmps21
    go_wp2_with fail
    (refine (iNormOf_v _ hn).mono ?_; rintro e w1 ⟨rfl, hb1⟩; have hz1 := hb1.size; (repeat (first | rw [World.size_alloc] at hz1 | rw [World.size_setCell] at hz1 | rw [World.size_drew] at hz1)); have pp := C2.K hb1 (b := w.heap.size) (x := _) (y := _) (by (repeat (first | ((with_reducible apply C2.mk) <;> (with_reducible assumption)) | (with_reducible apply C2.Z) | (with_reducible apply C2.O) | ((with_reducible apply C2.B); (focus (simp; done))) | (with_reducible apply C2.A) | (with_reducible apply C2.D) | ((with_reducible apply C2.S); focus ((repeat (first | rw [World.size_alloc] | rw [World.size_setCell] | rw [World.size_drew])); omega)) | ((with_reducible apply C2.K); (focus (with_reducible assumption)))))); obtain ⟨kk3, kk4⟩ := pp; (try clear kk1 kk2))
    go_wp2_with fail
    go_returns
    exact ⟨_, rfl, GS.nil _ _, by (repeat' (first | (with_reducible exact Below.refl _ _) | (with_reducible refine Below.alloc ?_ ?_ _) | (with_reducible refine Below.drew ?_) | (with_reducible refine Below.setCell ?_ ?_ _) | (with_reducible refine Below.trans ?_ (Below.mono (by assumption) ?_)) | go_size))⟩
  obtain ⟨k, e, hd, -, -, hl⟩ := dvL_yes (a := a) (b := b) (by omega) (by omega)
  rw [hd] at hl ⊢
  obtain ⟨L, hL⟩ : ∃ L, dvFrom a b (a * a + b * b).toNat 1 = L := ⟨_, rfl⟩
  rw [hL] at hl ⊢
  go_enter Try.func21, Try.ntmps21
  go_wp2_with fail
  (refine (iNormOf_v _ hn).mono ?_; rintro e w1 ⟨rfl, hb1⟩; have hz1 := hb1.size; (repeat (first | rw [World.size_alloc] at hz1 | rw [World.size_setCell] at hz1 | rw [World.size_drew] at hz1)); have pp := C2.K hb1 (b := w.heap.size) (x := _) (y := _) (by (repeat (first | ((with_reducible apply C2.mk) <;> (with_reducible assumption)) | (with_reducible apply C2.Z) | (with_reducible apply C2.O) | ((with_reducible apply C2.B); (focus (simp; done))) | (with_reducible apply C2.A) | (with_reducible apply C2.D) | ((with_reducible apply C2.S); focus ((repeat (first | rw [World.size_alloc] | rw [World.size_setCell] | rw [World.size_drew])); omega)) | ((with_reducible apply C2.K); (focus (with_reducible assumption)))))); obtain ⟨kk5, kk6⟩ := pp; (try clear kk3 kk4))
  go_wp2_with fail
  (refine (iDivisors a b _).mono ?_; rintro e w2 ⟨Bz, rfl, hz, hb2⟩; have hz2 := hb2.size; (repeat (first | rw [World.size_alloc] at hz2 | rw [World.size_setCell] at hz2 | rw [World.size_drew] at hz2)); (try clear kk5 kk6))
  have G := divisors_gives a b Bz w2 k (by omega) hz
  rw [hL] at G
  have hBz : Bz < w2.heap.size := World.block_lt_of_cell? _ _ hz.c0
  go_wp2_with fail
  refine (iCollect 69 _ L _ w2 (enters_of Try.func69 (by kernel_rfl) rfl) G (fun b h => h ▸ hBz) (by omega)).mono ?_
  rintro e w3 ⟨v, rfl, hg, hb3⟩
  go_wp2_with fail
  go_returns
  exact ⟨v, rfl, hg.mono (by have := hb2.size; omega), by (repeat' (first | (with_reducible exact Below.refl _ _) | (with_reducible refine Below.alloc ?_ ?_ _) | (with_reducible refine Below.drew ?_) | (with_reducible refine Below.setCell ?_ ?_ _) | (with_reducible refine Below.trans ?_ (Below.mono (by assumption) ?_)) | go_size))⟩
end Go.Proofs.Ytpjememmogaeiaa

namespace Go.Proofs.Ytpjememmogaeiaa
open Go Go.RowKit Go.Shelf
attribute [local go_sem] World.cell?_alloc_some cell?_alloc2_some cell?_alloc3_some cell?_alloc4_some frozen?_alloc_some frozen?_alloc2_some frozen?_alloc3_some World.cell?_setCell_far new_ne0 new_ne1 new_ne2 new_ne3 lt2 lt3 lt4 lt5 lt6 lt7 lt8 lt9
attribute [local go_sem] Oper.semAt_some

/-- What a function keeps that appends to a list of its own in loops over an iterator. -/
structure Pq (n₀ : World) (l : List (Int × Int)) (v : Value) (Ds : List Nat) (wr : World) : Prop where
  c : wr.cell? ⟨n₀.heap.size, 0, none⟩ = some v
  f : wr.frozen? ⟨n₀.heap.size, 0, none⟩ = false
  g : GS wr (n₀.heap.size + 1) v l
  nd : Ds.Nodup
  d : ∀ D ∈ Ds, n₀.heap.size < D ∧ D < wr.heap.size ∧ v.ownBlock ≠ some D ∧ wr.heap[D]? = some (.deferred (some []))
  b : Below n₀.heap.size n₀ wr
  hs : n₀.heap.size < wr.heap.size
section
variable {n₀ wr wx : World} {l : List (Int × Int)} {v : Value} {Ds : List Nat}
theorem Pq.keep {K : Nat → Prop} (h : Pq n₀ l v Ds wr) (hk : Keep K wr wx) (hK : ∀ b, b ≤ n₀.heap.size ∨ v.ownBlock = some b ∨ b ∈ Ds → K b) : Pq n₀ l v Ds wx := by
  refine ⟨hk.cell (hK _ (.inl (Nat.le_refl _))) h.c, hk.frozen (hK _ (.inl (Nat.le_refl _))) h.c h.f, h.g.kept hk (fun g hg => hK _ (.inr (.inl hg))), h.nd, fun D hD => ?_, h.b.trans (hk.below (fun b hb => hK _ (.inl (by omega))) h.b.size), by have := h.hs; have := hk.size; omega⟩
  obtain ⟨h1, h2, h3, h4⟩ := h.d D hD
  exact ⟨h1, by have := hk.size; omega, h3, hk.heap (hK _ (.inr (.inr hD))) h4⟩
theorem Pq.below (h : Pq n₀ l v Ds wr) (hk : Below wr.heap.size wr wx) : Pq n₀ l v Ds wx := h.keep (Keep.of_below (fun _ => True) hk) (fun _ _ => trivial)
theorem Pq.more (h : Pq n₀ l v Ds wr) {D : Nat} (hD : wr.heap[D]? = some (.deferred (some []))) (h1 : ∀ D' ∈ Ds, D' < D) (h2 : n₀.heap.size < D) (h3 : v.ownBlock ≠ some D) : Pq n₀ l v (D :: Ds) wr := by
  refine ⟨h.c, h.f, h.g, List.nodup_cons.2 ⟨fun h' => Nat.lt_irrefl _ (h1 D h'), h.nd⟩, fun D' hD' => ?_, h.b, h.hs⟩
  rcases List.mem_cons.1 hD' with rfl | h'
  · exact ⟨h2, (Array.getElem?_eq_some_iff.1 hD).1, h3, hD⟩
  · exact h.d D' h'
/-- One number more: appended, and the slice stored. -/
theorem Pq.app (h : Pq n₀ l v Ds wr) {l' : List (Int × Int)} {g n cap : Nat} (hg : GS wx (n₀.heap.size + 1) (.slice (some ⟨g, 0, none⟩) n cap) l') (hk : wr.grownBy wx v.ownBlock) (hat : v.ownBlock = some g ∨ g = wr.heap.size) :
    Pq n₀ l' (.slice (some ⟨g, 0, none⟩) n cap) Ds (wx.setCell ⟨n₀.heap.size, 0, none⟩ (.slice (some ⟨g, 0, none⟩) n cap)) := by
  have hX : some n₀.heap.size ≠ v.ownBlock := h.g.ne (by omega)
  have k := grown_keep hk
  have c := k.cell (p := ⟨n₀.heap.size, 0, none⟩) hX h.c
  have f := k.frozen (p := ⟨n₀.heap.size, 0, none⟩) hX h.c h.f
  have hs := k.size
  have ks : Keep (fun b => b ≠ n₀.heap.size) wx (wx.setCell ⟨n₀.heap.size, 0, none⟩ (.slice (some ⟨g, 0, none⟩) n cap)) := (Keep.refl _ _).setCell (fun h => h rfl) _
  have hgl := hg.lt g rfl
  have hgk : ∀ g', (Value.slice (some ⟨g, 0, none⟩) n cap).ownBlock = some g' → g' ≠ n₀.heap.size := fun g' e => by
    have e' : g' = g := by simpa [Value.ownBlock] using e.symm
    omega
  refine ⟨sameS c, keepFS f, hg.kept ks hgk, h.nd, fun D hD => ?_, ?_, by have := h.hs; have := ks.size; omega⟩
  · obtain ⟨h1, h2, h3, h4⟩ := h.d D hD
    refine ⟨h1, by have := ks.size; omega, fun e => ?_, ks.heap (by omega) (k.heap (fun e => h3 e.symm) h4)⟩
    have e' : D = g := by simpa [Value.ownBlock] using e.symm
    subst e'
    rcases hat with h' | h'
    · exact h3 h'
    · omega
  · exact (h.b.trans (k.below (fun b hb => h.g.ne (by omega)) h.b.size)).setCell (Nat.le_refl _) _
end
theorem cir_len {n : Int} : ∀ (k : Nat) (a : Int), (cirFrom n k a).length ≤ k := by
  intro k
  induction k with
  | zero => intro a; simp [cirFrom]
  | succ k ih =>
    intro a
    have := ih (a + 1)
    cases h : cirB n a with
    | none => rw [cir_miss h]; omega
    | some b => rw [cir_hit h, List.length_cons]; omega
/-- The primes that are told. -/
def pgL (M : Int) : List (Int × Int) := if M ≤ 400 then pgFrom M.toNat 1 else []
def Po (n₀ : World) (M : Int) (u : Value) (ds : List Deferred) (wr : World) : Prop :=
  ∃ (k n : Nat) (l : List (Int × Int)) (v : Value) (Ds : List Nat), u = .int .i64 (n : Int) ∧ 1 ≤ n ∧ ((n : Int) + k = M + 1 ∨ (k = 0 ∧ M < 1)) ∧ l ++ pgFrom k n = pgL M ∧ ds = Ds.map mark ∧ Pq n₀ l v Ds wr
def Pn (n₀ : World) (n pre : Nat) (l : List (Int × Int)) (Ds : List Nat) (m : Nat) (Si : Nat → Prop) (wr : World) : Prop :=
  ∃ v, (∀ g, v.ownBlock = some g → Si g ∨ g < pre) ∧ Pq n₀ (l ++ ((circ n).take m).filter (fun p => prO p.1 p.2)) v Ds wr
theorem pg_len (M : Int) : (pgL M).length ≤ 2025 := by
  unfold pgL
  split
  · have h := pg_found M.toNat 1 [] (by omega) (Found.start _ (by omega))
    rw [List.nil_append] at h
    refine len_2025 h.sorted (fun u v hm => ?_)
    obtain ⟨h1, h2, h3⟩ := (h.mem u v).1 hm
    refine ⟨h1, ?_⟩
    rcases h3 with h3 | ⟨h3, h4⟩ <;> omega
  · simp

set_option maxHeartbeats 8000000 in
theorem iPrimesUpTo (M : Int) (w : World) : Calls Try.prog 37 #[.int .i64 M] w fun e w' => ∃ v, e = .returned v ∧ GS w' w.heap.size v (pgL M) ∧ Below w.heap.size w w' := by
  by_cases h400 : 400 < M
  · have hl : pgL M = [] := by rw [pgL, if_neg (by omega)]
    rw [hl]
    go_enter Try.func37, Try.ntmps37
    go_wp2_with fail
    go_returns
    exact ⟨_, rfl, GS.nil _ _, by (repeat' (first | (with_reducible exact Below.refl _ _) | (with_reducible refine Below.alloc ?_ ?_ _) | (with_reducible refine Below.drew ?_) | (with_reducible refine Below.setCell ?_ ?_ _) | (with_reducible refine Below.trans ?_ (Below.mono (by assumption) ?_)) | go_size))⟩
  have hpl := pg_len M
  refine (callsIn_wide (n := 9)).1 ?_
  refine callsIn_of_wp_marks Try.func37 rfl trivial ?_ rfl
  simp only [Try.ntmps37, List.size_toArray, List.length_cons, List.length_nil, Nat.reduceAdd, Nat.reduceSub, Array.replicate_succ, Array.replicate_zero, List.push_toArray, List.append_toArray, List.nil_append, List.cons_append]
  refine wpIn_wide.2 ?_
  go_wp2_with fail
  have hq0 : Pq w [] (.slice none 0 0) [] (w.alloc (.cells #[.slice none 0 0] 33)) := ⟨by (repeat (first | (with_reducible assumption) | (with_reducible apply sameS) | ((with_reducible apply born); (focus (simp; done)); (focus rfl)) | (with_reducible apply keepA) | (with_reducible apply keepD) | ((with_reducible apply keepS); focus ((repeat (first | rw [World.size_alloc] | rw [World.size_setCell] | rw [World.size_drew])); omega)) | ((with_reducible apply keep); (focus (with_reducible assumption))))), by (repeat (first | (with_reducible assumption) | ((with_reducible apply bornF); (focus (simp; done))) | (with_reducible apply keepFS) | (with_reducible apply keepFD) | ((with_reducible apply keepFA); (focus (repeat (first | (with_reducible assumption) | (with_reducible apply sameS) | ((with_reducible apply born); (focus (simp; done)); (focus rfl)) | (with_reducible apply keepA) | (with_reducible apply keepD) | ((with_reducible apply keepS); focus ((repeat (first | rw [World.size_alloc] | rw [World.size_setCell] | rw [World.size_drew])); omega)) | ((with_reducible apply keep); (focus (with_reducible assumption))))))))), GS.nil _ _, List.nodup_nil, fun D h => (by cases h), by (repeat' (first | (with_reducible exact Below.refl _ _) | (with_reducible refine Below.alloc ?_ ?_ _) | (with_reducible refine Below.drew ?_) | (with_reducible refine Below.setCell ?_ ?_ _) | (with_reducible refine Below.trans ?_ (Below.mono (by assumption) ?_)) | go_size)), by simp⟩
  refine wp_loop (fun a' w' => ∃ u4 u5 u6 u7 u8 u9 u10 u11 u12 u13 u14 u15 u16 u17 u18 u19 u20 u21 u22, Po w M u4 a'.defers w' ∧ a' = { tmps := #[.int .i64 M, undef, .slice none 0 0, .pointer (some ⟨w.heap.size, 0, none⟩), u4, u5, u6, u7, u8, u9, u10, u11, u12, u13, u14, u15, u16, u17, u18, u19, u20, u21, u22], defers := a'.defers }) (fun a' _ => 3000 - (intOf (a'.tmps.getD 4 undef)).toNat) ?_ ?_
  · refine ⟨_, _, _, _, _, _, _, _, _, _, _, _, _, _, _, _, _, _, _, ⟨M.toNat, 1, [], _, [], rfl, by omega, by omega, by rw [pgL, if_pos (by omega)]; rfl, rfl, hq0⟩, rfl⟩
  · clear hq0
    rintro a' wr ⟨u4, u5, u6, u7, u8, u9, u10, u11, u12, u13, u14, u15, u16, u17, u18, u19, u20, u21, u22, ⟨k, n, l, v, Ds, rfl, h1, hkn, hl, hds, hq⟩, ha⟩
    rw [hds] at ha
    subst ha
    clear hds
    dsimp only
    have hsr := hq.hs
    have hll : l.length ≤ 2025 := by
      have := congrArg List.length hl
      rw [List.length_append] at this
      omega
    cases k with
    | zero =>
      have hd1 : decide ((n : Int) ≤ M) = false := decide_eq_false (by omega)
      rw [show pgFrom 0 n = [] from rfl, List.append_nil] at hl
      have hx := hq.c
      go_wp2_with fail
      show LeavesInM _ _ _ _ _ _ (Ds.map mark) _ _
      refine marks_back v Ds _ hq.nd (fun D hD => (hq.d D hD).2.2.2) (fun W' hk => ⟨?_, ?_⟩)
      · simp [results, Try.results37, go_sem]
      · rw [← hl]
        exact ⟨v, rfl, (hq.g.kept hk (fun g h hD => (hq.d g hD).2.2.1 h)).mono (by omega), hq.b.trans (hk.below (fun b hb hD => by have := (hq.d b hD).1; omega) hq.b.size)⟩
    | succ k =>
      have hn400 : n ≤ 400 := by omega
      have hd1 : decide ((n : Int) ≤ M) = true := decide_eq_true (by omega)
      rw [pgFrom, ← List.append_assoc] at hl
      go_wp2_with fail
      (refine (iOnCircle n _).mono ?_; rintro e w2 ⟨Bn, rfl, cB, hB, hb2⟩; have hz2 := hb2.size; (repeat (first | rw [World.size_alloc] at hz2 | rw [World.size_setCell] at hz2 | rw [World.size_drew] at hz2)))
      have hq2 := hq.below hb2
      have hvp : ∀ g, v.ownBlock = some g → g < wr.heap.size := fun g h => (hq.g.lt g h).2
      clear hq
      have hBn : Bn < w2.heap.size := World.block_lt_of_cell? _ _ cB
      go_wp2_with fail
      refine (wpIn_wide (n := 9)).1 ?_
      have G := onCircle_gives n Bn w2 (by omega) cB
      refine wp_rangeG (xs := (circ n).map gRow) rfl (enters_of Try.func70 (by kernel_rfl) rfl) G (fun b h => h ▸ hBn) (Keep.refl _ _) (fun x hx => by obtain ⟨q, -, rfl⟩ := List.mem_map.1 hx; rfl)
        (Pn w n wr.heap.size l Ds) (fun _ _ _ => False) ?hI (fun _ _ _ _ h _ => h) ?h0 ?round ?done (fun _ _ _ _ _ h => h.elim)
      case hI =>
        rintro m Si A B ⟨v, hv, hq⟩ hAB
        exact ⟨v, hv, hq.keep hAB (fun b h => by
          rcases h with h | h | h
          · exact .inl (by have := hq2.hs; omega)
          · rcases hv b h with h | h
            · exact .inr h
            · exact .inl (by have := hb2.size; omega)
          · exact .inl (hq2.d b h).2.1)⟩
      case h0 => exact ⟨v, fun g h => .inr (hvp g h), by simpa using hq2⟩
      case round =>
        rintro l' m Si row Wr hr ⟨v, hv, hq⟩ hs hSi
        obtain ⟨p, q, rfl, hat, htk⟩ := row_at hr
        have hfil : (List.take (m + 1) (circ n)).filter (fun p => prO p.1 p.2) = ((circ n).take m).filter (fun p => prO p.1 p.2) ++ [(p, q)].filter (fun p => prO p.1 p.2) := by rw [htk, List.filter_append]
        obtain ⟨T, hT⟩ : ∃ T, l ++ ((circ n).take m).filter (fun p => prO p.1 p.2) = T := ⟨_, rfl⟩
        have hTl : T.length ≤ 8000000 := by
          rw [← hT, List.length_append]
          have e1 : (((circ n).take m).filter (fun p => prO p.1 p.2)).length ≤ 44 := by
            refine Nat.le_trans (List.length_filter_le _ _) (Nat.le_trans (List.length_take_le' _ _) ?_)
            exact cir_len 44 1
          omega
        rw [hT] at hq
        rw [gRow]
        gi_wp2
        refine ⟨(Keep.refl _ _).alloc _, ?_⟩
        intro W2 hs2 hk2
        rw [World.size_alloc] at hs2
        have tV := hk2.t2 (b := Wr.heap.size) (x := .int .i64 p) (y := .int .i64 q) (.inr (by omega)) (by (repeat (first | ((with_reducible apply T2.mk) <;> (with_reducible assumption)) | (with_reducible apply T2.Z) | (with_reducible apply T2.O) | ((with_reducible apply T2.B); (focus (simp; done))) | (with_reducible apply T2.A) | (with_reducible apply T2.D) | ((with_reducible apply T2.S); focus ((repeat (first | rw [World.size_alloc] | rw [World.size_setCell] | rw [World.size_drew])); omega)) | ((with_reducible apply T2.K); (focus (with_reducible assumption))))))
        have hqA := (hq.below (wx := Wr.alloc (.cells #[.int .i64 p, .int .i64 q] 24)) (by (repeat' (first | (with_reducible exact Below.refl _ _) | (with_reducible refine Below.alloc ?_ ?_ _) | (with_reducible refine Below.drew ?_) | (with_reducible refine Below.setCell ?_ ?_ _) | (with_reducible refine Below.trans ?_ (Below.mono (by assumption) ?_)) | go_size)))).keep hk2 (fun b h => by
          rcases h with h | h | h
          · exact .inl (by have := hq2.hs; omega)
          · rcases hv b h with h | h
            · exact .inr (hSi b h).1
            · exact .inl (by have := hb2.size; omega)
          · exact .inl (hq2.d b h).2.1)
        have HS := Lib.hid hs2
        clear hq hs2 hk2
        obtain ⟨v0, v1, -, -⟩ := tV
        have hx := hqA.c
        obtain ⟨o, ho⟩ : ∃ o, prO p q = o := ⟨_, rfl⟩
        gi_wp2_with fail
        refine ⟨trivial, ?_⟩
        refine (CallsIn.inRound l' (callsIn_wide.2 (iPrimeOk p q _))).mono ?_
        rintro e W3 ⟨rfl, hb3⟩
        have hz3 := hb3.size
        have c0 := keep hb3 v0
        have c1 := keep hb3 v1
        have hqB := hqA.below hb3
        clear v0 v1 hx hqA
        rw [ho]
        have hf1 : [(p, q)].filter (fun p => prO p.1 p.2) = if o then [(p, q)] else [] := by rw [List.filter_cons]; dsimp only; rw [ho]; rfl
        have hPn : ∀ (W' : World) (v' : Value) (T' : List (Int × Int)), T' = T ++ (if o then [(p, q)] else []) → Pq w T' v' Ds W' → Pq w (l ++ (List.take (m + 1) (circ n)).filter (fun p => prO p.1 p.2)) v' Ds W' := fun W' v' T' e h => by
          rw [hfil, hf1, ← List.append_assoc, hT, ← e]; exact h
        clear hfil hf1 hT ho htk
        cases o
        · gi_wp2
          refine ⟨Si, fun b h => ⟨.inl h, ?_⟩, Keep.of_below _ hb3, v, hv, hPn _ _ T (by simp) hqB⟩
          have := (hSi b h).2
          have := HS.out
          omega
        · have cX := hqB.c
          have fX := hqB.f
          have hqC := hqB.below (wx := W3.alloc (.cells #[.int .i64 p, .int .i64 q] 24)) (by (repeat' (first | (with_reducible exact Below.refl _ _) | (with_reducible refine Below.alloc ?_ ?_ _) | (with_reducible refine Below.drew ?_) | (with_reducible refine Below.setCell ?_ ?_ _) | (with_reducible refine Below.trans ?_ (Below.mono (by assumption) ?_)) | go_size)))
          have hne : some w.heap.size ≠ v.ownBlock := hqB.g.ne (by omega)
          gi_wp2_with (gi_at_builtin; refine appIn _ rfl _ _ rfl (w.heap.size + 1) v T p q rfl hqC.g W3.heap.size rfl (by (repeat (first | (with_reducible assumption) | (with_reducible apply sameS) | ((with_reducible apply born); (focus (simp; done)); (focus rfl)) | (with_reducible apply keepA) | (with_reducible apply keepD) | ((with_reducible apply keepS); focus ((repeat (first | rw [World.size_alloc] | rw [World.size_setCell] | rw [World.size_drew])); omega)) | ((with_reducible apply keep); (focus (with_reducible assumption)))))) (by (repeat (first | (with_reducible assumption) | (with_reducible apply sameS) | ((with_reducible apply born); (focus (simp; done)); (focus rfl)) | (with_reducible apply keepA) | (with_reducible apply keepD) | ((with_reducible apply keepS); focus ((repeat (first | rw [World.size_alloc] | rw [World.size_setCell] | rw [World.size_drew])); omega)) | ((with_reducible apply keep); (focus (with_reducible assumption)))))) hTl (by have := hqB.hs; simp; omega) ?_; intro g cap W4 hg4 hgr hat4 hlt4; have hk4 := grown_keep hgr; have c4 := hk4.cell (p := ⟨w.heap.size, 0, none⟩) (v := v) hne (by (repeat (first | (with_reducible assumption) | (with_reducible apply sameS) | ((with_reducible apply born); (focus (simp; done)); (focus rfl)) | (with_reducible apply keepA) | (with_reducible apply keepD) | ((with_reducible apply keepS); focus ((repeat (first | rw [World.size_alloc] | rw [World.size_setCell] | rw [World.size_drew])); omega)) | ((with_reducible apply keep); (focus (with_reducible assumption)))))); have f4 := hk4.frozen (p := ⟨w.heap.size, 0, none⟩) (v := v) hne (by (repeat (first | (with_reducible assumption) | (with_reducible apply sameS) | ((with_reducible apply born); (focus (simp; done)); (focus rfl)) | (with_reducible apply keepA) | (with_reducible apply keepD) | ((with_reducible apply keepS); focus ((repeat (first | rw [World.size_alloc] | rw [World.size_setCell] | rw [World.size_drew])); omega)) | ((with_reducible apply keep); (focus (with_reducible assumption)))))) (by (repeat (first | (with_reducible assumption) | ((with_reducible apply bornF); (focus (simp; done))) | (with_reducible apply keepFS) | (with_reducible apply keepFD) | ((with_reducible apply keepFA); (focus (repeat (first | (with_reducible assumption) | (with_reducible apply sameS) | ((with_reducible apply born); (focus (simp; done)); (focus rfl)) | (with_reducible apply keepA) | (with_reducible apply keepD) | ((with_reducible apply keepS); focus ((repeat (first | rw [World.size_alloc] | rw [World.size_setCell] | rw [World.size_drew])); omega)) | ((with_reducible apply keep); (focus (with_reducible assumption)))))))))))
          have hqD := hqC.app hg4 hgr hat4
          have hs4 := hk4.size
          rw [World.size_alloc] at hs4 hat4
          have hgc : (w2.heap.size ≤ g ∧ (Si g ∨ Wr.heap.size ≤ g)) ∨ g < wr.heap.size := by
            rcases hat4 with h | h
            · rcases hv g h with h | h
              · exact .inl ⟨by have := (hSi g h).1; omega, .inl h⟩
              · exact .inr h
            · have := HS.out
              exact .inl ⟨by omega, .inr (by omega)⟩
          refine ⟨fun b => b = g ∧ w2.heap.size ≤ b, fun b ⟨h, h'⟩ => ?_, ?_, .slice (some ⟨g, 0, none⟩) (T.length + 1) cap, fun g' h => ?_, hPn _ _ _ rfl hqD⟩
          · subst h
            refine ⟨?_, by simpa using hlt4⟩
            rcases hgc with h | h
            · exact h.2
            · have := hb2.size; omega
          · refine Keep.setCell ((((Keep.of_below (fun _ => True) hb3).trans (Keep.alloc (Keep.refl _ _) _)).mono (fun _ _ _ => trivial)).trans (hk4.mono ?_)) ?_ _
            · rintro b ⟨g1, g2, g3⟩ - e
              rcases hv b e.symm with h | h
              · exact g1 h
              · have := hb2.size; omega
            · rintro ⟨-, g2, -⟩
              dsimp only at g2
              have := hq2.hs
              omega
          · have e' : g' = g := by simpa [Value.ownBlock] using h.symm
            subst e'
            rcases hgc with h | h
            · exact .inl ⟨rfl, h.1⟩
            · exact .inr h
      case done =>
        rintro D Si Wd hD ⟨v, hv, hq⟩ hSD hK
        rw [List.length_map, List.take_length] at hq
        have hq' := hq.more hK (fun D' h => by have := (hq2.d D' h).2.1; omega) (by have := hq2.hs; omega) (fun h => by
          rcases hv D h with h3 | h3
          · have := hSD D h3; omega
          · have := hb2.size; omega)
        clear hK
        gi_wp2
        go_wp2_with fail
        exact ⟨⟨k, n + 1, _, v, D :: Ds, by simp, by omega, by omega, by rw [← hl]; simp, rfl, hq'⟩, by simp [intOf]; omega⟩
end Go.Proofs.Ytpjememmogaeiaa

namespace Go.Proofs.Ytpjememmogaeiaa
open Go Go.RowKit
attribute [local go_sem] World.cell?_alloc_some cell?_alloc2_some cell?_alloc3_some cell?_alloc4_some frozen?_alloc_some frozen?_alloc2_some frozen?_alloc3_some World.cell?_setCell_far new_ne0 new_ne1 new_ne2 new_ne3 lt2 lt3 lt4 lt5 lt6 lt7 lt8 lt9

/-- What the search of the reference keeps: the list so far, and old memory. -/
structure Sq (base : Nat) (n₀ : World) (v : Value) (l : List (Int × Int)) (wr : World) : Prop where
  g : GS wr base v l
  b : Below n₀.heap.size n₀ wr
  lo : n₀.heap.size ≤ base
  hi : base ≤ wr.heap.size
theorem Sq.below {base : Nat} {n₀ wr wx : World} {v : Value} {l : List (Int × Int)} (h : Sq base n₀ v l wr) (hk : Below wr.heap.size wr wx) : Sq base n₀ v l wx :=
  ⟨h.g.below hk, h.b.trans (hk.mono h.b.size), h.lo, by have := hk.size; have := h.hi; omega⟩
theorem Sq.app {base : Nat} {n₀ wr wx : World} {v v' : Value} {l l' : List (Int × Int)} (h : Sq base n₀ v l wr) (hg : GS wx base v' l') (hk : wr.grownBy wx v.ownBlock) : Sq base n₀ v' l' wx :=
  ⟨hg, h.b.trans ((grown_keep hk).below (fun b hb => h.g.ne (by have := h.lo; omega)) h.b.size), h.lo, by have := hk.size; have := h.hi; omega⟩
theorem Sq.c2 {base : Nat} {n₀ wr wx : World} {v : Value} {l : List (Int × Int)} {X : Nat} {x y : Value} (h : Sq base n₀ v l wr) (hk : wr.grownBy wx v.ownBlock) (hX : X < base) (t : C2 wr X x y) : C2 wx X x y :=
  t.keep (grown_keep hk) (h.g.ne hX)
theorem found_len {ok : Int → Int → Bool} {n a b : Int} {l : List (Int × Int)} (h : Found ok n a b l) (hn : n ≤ 2000) : l.length ≤ 2025 := by
  refine len_2025 h.sorted (fun u v hm => ?_)
  obtain ⟨h1, h2, h3⟩ := (h.mem u v).1 hm
  refine ⟨h1, ?_⟩
  rcases h3 with h3 | ⟨h3, h4⟩ <;> omega

theorem pgL_no {M : Int} (h : M < 2 ∨ 400 < M) : pgL M = [] := by
  have hp := pg_len M
  unfold pgL
  split
  · rename_i hM
    have hf := pg_found M.toNat 1 [] (by omega) (Found.start _ (by omega))
    rw [List.nil_append] at hf
    cases hl : pgFrom M.toNat 1 with
    | nil => rfl
    | cons p t =>
      exfalso
      obtain ⟨u, v⟩ := p
      obtain ⟨h1, h2, h3⟩ := (hf.mem u v).1 (by rw [hl]; exact List.mem_cons_self ..)
      have := pr_pos (prO_prI h2)
      rcases h3 with h3 | ⟨h3, h4⟩
      · omega
      · have := h1.1; have := h1.2; omega
  · rfl
theorem pgL_is {M : Int} (h2 : 0 ≤ M) (h : M ≤ 400) : Prs M (pgL M) := by
  rw [pgL, if_pos h]
  have hf := pg_found M.toNat 1 [] (by omega) (Found.start _ (by omega))
  rw [List.nil_append] at hf
  exact Found.all (by rw [show M + 1 = 1 + (M.toNat : Int) by omega]; exact hf)

set_option maxHeartbeats 8000000 in
theorem sPrimesUpTo (M : Int) (w : World) : Calls Try.prog 38 #[.int .i64 M] w fun e w' => ∃ v, e = .returned v ∧ GS w' w.heap.size v (pgL M) ∧ Below w.heap.size w w' := by
  go_enter Try.func38, Try.ntmps38
  go_wp2_with fail
  have hq0 : Sq w.heap.size w (.slice (some ⟨w.heap.size, 0, none⟩) 0 0) [] (w.alloc (.cells #[] 24)) := ⟨World.ownsRow_lit w #[] 0 (Nat.le_refl _) (by decide) rfl, by (repeat' (first | (with_reducible exact Below.refl _ _) | (with_reducible refine Below.alloc ?_ ?_ _) | (with_reducible refine Below.drew ?_) | (with_reducible refine Below.setCell ?_ ?_ _) | (with_reducible refine Below.trans ?_ (Below.mono (by assumption) ?_)) | go_size)), Nat.le_refl _, by simp⟩
  have hf0 : Found prO 2 1 0 [] := (Found.start prO (n := 1) (Int.le_refl _)).skip (fun u v _ h e => by have := pr_pos (prO_prI h); omega)
  have hf2 : ∀ l, Found prO 2 1 0 l → l = [] := fun l h => by
    cases l with
    | nil => rfl
    | cons p t =>
      exfalso
      obtain ⟨u, v⟩ := p
      obtain ⟨h1, h2, h3⟩ := (h.mem u v).1 (List.mem_cons_self ..)
      have := pr_pos (prO_prI h2)
      rcases h3 with h3 | ⟨h3, h4⟩
      · omega
      · have := h1.1; have := h1.2; omega
  go_loopw [3, 4] (fun v u wr => ∃ (n : Nat) (l : List (Int × Int)), u = .int .i64 (n : Int) ∧ 2 ≤ n ∧ n ≤ 401 ∧ (n = 2 ∨ ((n : Int) ≤ M + 1 ∧ M ≤ 400)) ∧ Found prO n 1 0 l ∧ Sq w.heap.size w v l wr) (fun _ u _ => 500 - (intOf u).toNat)
  case atStart => exact ⟨2, [], rfl, by omega, by omega, .inl rfl, hf0, hq0⟩
  case round =>
    clear hq0
    obtain ⟨n, l, rfl, h2, h401, hnM, hf, hq⟩ := hrel
    by_cases hc : (n : Int) ≤ M ∧ M ≤ 400
    · obtain ⟨hc1, hc2⟩ := hc
      have hd1 : decide ((n : Int) ≤ M) = true := decide_eq_true hc1
      have hd2 : decide (M ≤ 400) = true := decide_eq_true hc2
      go_wp2_with fail
      go_loopw [3, 5] (fun v u wr => ∃ (a : Nat) (l : List (Int × Int)), u = .int .i64 (a : Int) ∧ 1 ≤ a ∧ a ≤ 21 ∧ Found prO n a 0 l ∧ Sq w.heap.size w v l wr) (fun _ u _ => 100 - (intOf u).toNat)
      case atStart => exact ⟨1, l, rfl, by omega, by omega, hf, hq⟩
      case round =>
        clear hf hq
        obtain ⟨a, l, rfl, ha1, ha21, hf, hq⟩ := hrel
        have haa : ((a * a : Nat) : Int) = (a : Int) * a := by simp
        have ha3 : a * a ≤ 441 := Nat.mul_le_mul ha21 ha21
        by_cases hle : (a : Int) * a ≤ n
        · have hd3 : decide ((a : Int) * a ≤ n) = true := decide_eq_true hle
          have ha20 : a ≤ 20 := by
            rcases Nat.lt_or_ge 20 a with h | h
            · have := Nat.mul_le_mul h h; omega
            · exact h
          go_wp2_with fail
          go_loopw [3, 6] (fun v u wr => ∃ (b : Nat) (l : List (Int × Int)), u = .int .i64 (b : Int) ∧ b ≤ 21 ∧ Found prO n a b l ∧ Sq w.heap.size w v l wr) (fun _ u _ => 100 - (intOf u).toNat)
          case atStart => exact ⟨0, l, rfl, by omega, hf, hq⟩
          case round =>
            clear hf hq
            obtain ⟨b, l, rfl, hb21, hf, hq⟩ := hrel
            have hbb : ((b * b : Nat) : Int) = (b : Int) * b := by simp
            have hb3 : b * b ≤ 441 := Nat.mul_le_mul hb21 hb21
            by_cases hle2 : (a : Int) * a + b * b ≤ n
            · have hd4 : decide ((a : Int) * a + b * b ≤ n) = true := decide_eq_true hle2
              have hb20 : b ≤ 20 := by
                rcases Nat.lt_or_ge 20 b with h | h
                · have := Nat.mul_le_mul h h; omega
                · exact h
              by_cases he : (a : Int) * a + b * b = n
              · have he' : ((a : Int) * a + b * b == n) = true := by rw [beq_iff_eq]; exact he
                go_wp2_with fail
                (refine (sPrimeOk a b _).mono ?_; rintro e w1 ⟨rfl, hb1⟩; have hz1 := hb1.size; (repeat (first | rw [World.size_alloc] at hz1 | rw [World.size_setCell] at hz1 | rw [World.size_drew] at hz1)))
                have hqB := hq.below hb1
                clear hq
                cases ho : prO a b
                · have hf' := hf.miss (b := b) (fun h => by rw [h.2] at ho; cases ho)
                  go_wp2_with fail
                  go_roundw
                  case rel => exact ⟨b + 1, l, by simp, by omega, by simpa using hf', hqB⟩
                  case measure => simp [intOf]; omega
                · have hf' := hf.hit (show (1 : Int) ≤ a by omega) (Int.natCast_nonneg b) he ho
                  have hl8 : l.length ≤ 8000000 := by have := found_len hf (by omega); omega
                  have hqC := hqB.below (wx := w1.alloc (.cells #[.int .i64 a, .int .i64 b] 24)) (by (repeat' (first | (with_reducible exact Below.refl _ _) | (with_reducible refine Below.alloc ?_ ?_ _) | (with_reducible refine Below.drew ?_) | (with_reducible refine Below.setCell ?_ ?_ _) | (with_reducible refine Below.trans ?_ (Below.mono (by assumption) ?_)) | go_size)))
                  have hsz := hqC.hi
                  go_wp2_with (at_builtin; refine appPl _ rfl _ _ rfl w.heap.size _ l a b rfl hqC.g w1.heap.size rfl (by (repeat (first | (with_reducible assumption) | (with_reducible apply sameS) | ((with_reducible apply born); (focus (simp; done)); (focus rfl)) | (with_reducible apply keepA) | (with_reducible apply keepD) | ((with_reducible apply keepS); focus ((repeat (first | rw [World.size_alloc] | rw [World.size_setCell] | rw [World.size_drew])); omega)) | ((with_reducible apply keep); (focus (with_reducible assumption)))))) (by (repeat (first | (with_reducible assumption) | (with_reducible apply sameS) | ((with_reducible apply born); (focus (simp; done)); (focus rfl)) | (with_reducible apply keepA) | (with_reducible apply keepD) | ((with_reducible apply keepS); focus ((repeat (first | rw [World.size_alloc] | rw [World.size_setCell] | rw [World.size_drew])); omega)) | ((with_reducible apply keep); (focus (with_reducible assumption)))))) hl8 hsz ?_; intro g cap W4 hg4 hgr hat4 hlt4)
                  have hqD := hqC.app hg4 hgr
                  go_roundw
                  case rel => exact ⟨b + 1, _, by simp, by omega, by simpa using hf', hqD⟩
                  case measure => simp [intOf]; omega
              · have he' : ((a : Int) * a + b * b == n) = false := by rw [beq_eq_false_iff_ne]; exact he
                have hf' := hf.miss (b := b) (fun h => he h.1)
                go_wp2_with fail
                go_roundw
                case rel => exact ⟨b + 1, l, by simp, by omega, by simpa using hf', hq⟩
                case measure => simp [intOf]; omega
            · have hd4 : decide ((a : Int) * a + b * b ≤ n) = false := decide_eq_false hle2
              have hf' := hf.nextA (Int.natCast_nonneg b) (Int.not_le.1 hle2)
              go_wp2_with fail
              go_roundw
              case rel => exact ⟨a + 1, l, by simp, by omega, by omega, by simpa using hf', hq⟩
              case measure => simp [intOf]; omega
        · have hd3 : decide ((a : Int) * a ≤ n) = false := decide_eq_false hle
          have hf' := hf.nextN (Int.natCast_nonneg a) (Int.not_le.1 hle)
          go_wp2_with fail
          go_roundw
          case rel => exact ⟨n + 1, l, by simp, by omega, by omega, .inr ⟨by omega, hc2⟩, by simpa using hf', hq⟩
          case measure => simp [intOf]; omega
    · have hl : l = pgL M := by
        rcases hnM with rfl | ⟨h3, h4⟩
        · rw [hf2 l hf, pgL_no (by omega)]
        · have e : (n : Int) = M + 1 := by omega
          rw [e] at hf
          exact hf.all.one (pgL_is (M := M) (by omega) h4)
      have hd : (decide ((n : Int) ≤ M) && decide (M ≤ 400)) = false := by
        rw [← Bool.decide_and]; exact decide_eq_false hc
      subst hl
      by_cases h3 : (n : Int) ≤ M
      · have hd1 : decide ((n : Int) ≤ M) = true := decide_eq_true h3
        have hd2 : decide (M ≤ 400) = false := decide_eq_false (fun h => hc ⟨h3, h⟩)
        go_wp2_with fail
        go_returns
        exact ⟨_, rfl, hq.g, hq.b⟩
      · have hd1 : decide ((n : Int) ≤ M) = false := decide_eq_false h3
        go_wp2_with fail
        go_returns
        exact ⟨_, rfl, hq.g, hq.b⟩
end Go.Proofs.Ytpjememmogaeiaa

namespace Go.Proofs.Ytpjememmogaeiaa
open Go Go.RowKit
attribute [local go_sem] World.cell?_alloc_some cell?_alloc2_some cell?_alloc3_some cell?_alloc4_some frozen?_alloc_some frozen?_alloc2_some frozen?_alloc3_some World.cell?_setCell_far new_ne0 new_ne1 new_ne2 new_ne3 lt2 lt3 lt4 lt5 lt6 lt7 lt8 lt9

theorem l1In_dv (p : Int) (w : World) : Calls Try.prog 51 #[.int .i64 p, .int .i64 1, .int .i64 2000] w fun e w' => e = .returned (.bool (decide (1 ≤ p ∧ p ≤ 2000))) ∧ Below w.heap.size w w' :=
  (l1In p 1 2000 w).mono fun e w' ⟨h1, h2⟩ => ⟨h1, by subst h2; exact Below.refl _ _⟩
/-- The search's state, with the number in its box. -/
structure Sz (x y : Int) (n₀ : World) (v : Value) (l : List (Int × Int)) (wr : World) : Prop where
  q : Sq (n₀.heap.size + 1) n₀ v l wr
  z : C2 wr n₀.heap.size (.int .i64 x) (.int .i64 y)
theorem Sz.below {x y : Int} {n₀ wr wx : World} {v : Value} {l : List (Int × Int)} (h : Sz x y n₀ v l wr) (hk : Below wr.heap.size wr wx) : Sz x y n₀ v l wx := ⟨h.q.below hk, C2.K hk h.z⟩
theorem Sz.app {x y : Int} {n₀ wr wx : World} {v v' : Value} {l l' : List (Int × Int)} (h : Sz x y n₀ v l wr) (hg : GS wx (n₀.heap.size + 1) v' l') (hk : wr.grownBy wx v.ownBlock) : Sz x y n₀ v' l' wx := ⟨h.q.app hg hk, h.q.c2 hk (by omega) h.z⟩

set_option maxRecDepth 100000 in
set_option maxHeartbeats 16000000 in
theorem sDivisorsOf (x y : Int) (w : World) : Calls Try.prog 33 #[.agg #[.int .i64 x, .int .i64 y]] w fun e w' => ∃ v, e = .returned v ∧ GS w' w.heap.size v (dvL x y) ∧ Below w.heap.size w w' := by
  have hq0 : Sz x y w (.slice (some ⟨w.heap.size + 1, 0, none⟩) 0 0) [] ((w.alloc (.cells #[.int .i64 x, .int .i64 y] 24)).alloc (.cells #[] 24)) :=
    ⟨⟨by have := World.ownsRow_lit (w.alloc (.cells #[.int .i64 x, .int .i64 y] 24)) #[] 0 (base := w.heap.size + 1) (e := 24) (size := 2) (by simp) (by decide) rfl
         rw [World.size_alloc] at this; exact this, by (repeat' (first | (with_reducible exact Below.refl _ _) | (with_reducible refine Below.alloc ?_ ?_ _) | (with_reducible refine Below.drew ?_) | (with_reducible refine Below.setCell ?_ ?_ _) | (with_reducible refine Below.trans ?_ (Below.mono (by assumption) ?_)) | go_size)), by omega, by simp⟩, (by (repeat (first | ((with_reducible apply C2.mk) <;> (with_reducible assumption)) | (with_reducible apply C2.Z) | (with_reducible apply C2.O) | ((with_reducible apply C2.B); (focus (simp; done))) | (with_reducible apply C2.A) | (with_reducible apply C2.D) | ((with_reducible apply C2.S); focus ((repeat (first | rw [World.size_alloc] | rw [World.size_setCell] | rw [World.size_drew])); omega)) | ((with_reducible apply C2.K); (focus (with_reducible assumption))))))⟩
  cases k : gok x y
  · have hno : dvL x y = [] := by rw [dvL, k, if_neg (by simp)]
    rw [hno]
    go_enter Try.func33, Try.ntmps33
    go_wp2_with fail
    (refine (sGaussOk _ _ _).mono ?_; rintro e w1 ⟨rfl, hb1⟩; have hz1 := hb1.size; (repeat (first | rw [World.size_alloc] at hz1 | rw [World.size_setCell] at hz1 | rw [World.size_drew] at hz1)); have pp := C2.K hb1 (b := w.heap.size) (x := _) (y := _) (by (repeat (first | ((with_reducible apply C2.mk) <;> (with_reducible assumption)) | (with_reducible apply C2.Z) | (with_reducible apply C2.O) | ((with_reducible apply C2.B); (focus (simp; done))) | (with_reducible apply C2.A) | (with_reducible apply C2.D) | ((with_reducible apply C2.S); focus ((repeat (first | rw [World.size_alloc] | rw [World.size_setCell] | rw [World.size_drew])); omega)) | ((with_reducible apply C2.K); (focus (with_reducible assumption)))))); obtain ⟨kk1, kk2⟩ := pp)
    have hq1 := hq0.below hb1
    clear hq0
    go_wp2_with fail
    go_returns
    exact ⟨_, rfl, hq1.q.g.mono (by omega), hq1.q.b⟩
  obtain ⟨N, hN⟩ : ∃ N, x * x + y * y = N := ⟨_, rfl⟩
  by_cases hr : 1 ≤ N ∧ N ≤ 2000
  case neg =>
    have hno : dvL x y = [] := by rw [dvL, hN, if_neg (fun h => hr h.2)]
    have hd : decide (1 ≤ N ∧ N ≤ 2000) = false := decide_eq_false hr
    rw [hno]
    go_enter Try.func33, Try.ntmps33
    go_wp2_with fail
    (refine (sGaussOk _ _ _).mono ?_; rintro e w1 ⟨rfl, hb1⟩; have hz1 := hb1.size; (repeat (first | rw [World.size_alloc] at hz1 | rw [World.size_setCell] at hz1 | rw [World.size_drew] at hz1)); have pp := C2.K hb1 (b := w.heap.size) (x := _) (y := _) (by (repeat (first | ((with_reducible apply C2.mk) <;> (with_reducible assumption)) | (with_reducible apply C2.Z) | (with_reducible apply C2.O) | ((with_reducible apply C2.B); (focus (simp; done))) | (with_reducible apply C2.A) | (with_reducible apply C2.D) | ((with_reducible apply C2.S); focus ((repeat (first | rw [World.size_alloc] | rw [World.size_setCell] | rw [World.size_drew])); omega)) | ((with_reducible apply C2.K); (focus (with_reducible assumption)))))); obtain ⟨kk3, kk4⟩ := pp; (try clear kk1 kk2))
    have hq1 := hq0.below hb1
    clear hq0
    go_wp2_with fail
    (refine (slNorm_v _ k hN).mono ?_; rintro e w2 ⟨rfl, hb2⟩; have hz2 := hb2.size; (repeat (first | rw [World.size_alloc] at hz2 | rw [World.size_setCell] at hz2 | rw [World.size_drew] at hz2)); have pp := C2.K hb2 (b := w.heap.size) (x := _) (y := _) (by (repeat (first | ((with_reducible apply C2.mk) <;> (with_reducible assumption)) | (with_reducible apply C2.Z) | (with_reducible apply C2.O) | ((with_reducible apply C2.B); (focus (simp; done))) | (with_reducible apply C2.A) | (with_reducible apply C2.D) | ((with_reducible apply C2.S); focus ((repeat (first | rw [World.size_alloc] | rw [World.size_setCell] | rw [World.size_drew])); omega)) | ((with_reducible apply C2.K); (focus (with_reducible assumption)))))); obtain ⟨kk5, kk6⟩ := pp; (try clear kk3 kk4))
    have hq2 := hq1.below hb2
    clear hq1
    go_wp2_with fail
    (refine (l1In_dv N _).mono ?_; rintro e w3 ⟨rfl, hb3⟩; have hz3 := hb3.size; (repeat (first | rw [World.size_alloc] at hz3 | rw [World.size_setCell] at hz3 | rw [World.size_drew] at hz3)); have pp := C2.K hb3 (b := w.heap.size) (x := _) (y := _) (by (repeat (first | ((with_reducible apply C2.mk) <;> (with_reducible assumption)) | (with_reducible apply C2.Z) | (with_reducible apply C2.O) | ((with_reducible apply C2.B); (focus (simp; done))) | (with_reducible apply C2.A) | (with_reducible apply C2.D) | ((with_reducible apply C2.S); focus ((repeat (first | rw [World.size_alloc] | rw [World.size_setCell] | rw [World.size_drew])); omega)) | ((with_reducible apply C2.K); (focus (with_reducible assumption)))))); obtain ⟨kk7, kk8⟩ := pp; (try clear kk5 kk6))
    have hq3 := hq2.below hb3
    rw [hd]
    go_wp2_with fail
    go_returns
    exact ⟨_, rfl, hq3.q.g.mono (by omega), hq3.q.b⟩
  have hd : decide (1 ≤ N ∧ N ≤ 2000) = true := decide_eq_true hr
  obtain ⟨hN1, hN2⟩ := hr
  obtain ⟨-, -, -, hdv, hz, -⟩ := dvL_yes (a := x) (b := y) (by rw [nrm_t k]; omega) (by rw [nrm_t k]; omega)
  rw [Dvs, hN] at hdv
  obtain ⟨L, hL⟩ : ∃ L, dvL x y = L := ⟨_, rfl⟩
  rw [hL] at hdv ⊢
  go_enter Try.func33, Try.ntmps33
  go_wp2_with fail
  (refine (sGaussOk _ _ _).mono ?_; rintro e w1 ⟨rfl, hb1⟩; have hz1 := hb1.size; (repeat (first | rw [World.size_alloc] at hz1 | rw [World.size_setCell] at hz1 | rw [World.size_drew] at hz1)); have pp := C2.K hb1 (b := w.heap.size) (x := _) (y := _) (by (repeat (first | ((with_reducible apply C2.mk) <;> (with_reducible assumption)) | (with_reducible apply C2.Z) | (with_reducible apply C2.O) | ((with_reducible apply C2.B); (focus (simp; done))) | (with_reducible apply C2.A) | (with_reducible apply C2.D) | ((with_reducible apply C2.S); focus ((repeat (first | rw [World.size_alloc] | rw [World.size_setCell] | rw [World.size_drew])); omega)) | ((with_reducible apply C2.K); (focus (with_reducible assumption)))))); obtain ⟨kk9, kk10⟩ := pp; (try clear kk7 kk8))
  have hq1 := hq0.below hb1
  clear hq0
  go_wp2_with fail
  (refine (slNorm_v _ k hN).mono ?_; rintro e w2 ⟨rfl, hb2⟩; have hz2 := hb2.size; (repeat (first | rw [World.size_alloc] at hz2 | rw [World.size_setCell] at hz2 | rw [World.size_drew] at hz2)); have pp := C2.K hb2 (b := w.heap.size) (x := _) (y := _) (by (repeat (first | ((with_reducible apply C2.mk) <;> (with_reducible assumption)) | (with_reducible apply C2.Z) | (with_reducible apply C2.O) | ((with_reducible apply C2.B); (focus (simp; done))) | (with_reducible apply C2.A) | (with_reducible apply C2.D) | ((with_reducible apply C2.S); focus ((repeat (first | rw [World.size_alloc] | rw [World.size_setCell] | rw [World.size_drew])); omega)) | ((with_reducible apply C2.K); (focus (with_reducible assumption)))))); obtain ⟨kk11, kk12⟩ := pp; (try clear kk9 kk10))
  have hq2 := hq1.below hb2
  clear hq1
  go_wp2_with fail
  (refine (l1In_dv N _).mono ?_; rintro e w3 ⟨rfl, hb3⟩; have hz3 := hb3.size; (repeat (first | rw [World.size_alloc] at hz3 | rw [World.size_setCell] at hz3 | rw [World.size_drew] at hz3)); have pp := C2.K hb3 (b := w.heap.size) (x := _) (y := _) (by (repeat (first | ((with_reducible apply C2.mk) <;> (with_reducible assumption)) | (with_reducible apply C2.Z) | (with_reducible apply C2.O) | ((with_reducible apply C2.B); (focus (simp; done))) | (with_reducible apply C2.A) | (with_reducible apply C2.D) | ((with_reducible apply C2.S); focus ((repeat (first | rw [World.size_alloc] | rw [World.size_setCell] | rw [World.size_drew])); omega)) | ((with_reducible apply C2.K); (focus (with_reducible assumption)))))); obtain ⟨kk13, kk14⟩ := pp; (try clear kk11 kk12))
  have hq3 := hq2.below hb3
  clear hq2 hb1 hb2 hb3 hz1 hz2 hz3
  rw [hd]
  go_wp2_with fail
  go_loopw [3, 4] (fun v u wr => ∃ (n : Nat) (l : List (Int × Int)), u = .int .i64 (n : Int) ∧ 1 ≤ n ∧ (n : Int) ≤ N + 1 ∧ Found (fun u v => vdO u v x y) n 1 0 l ∧ Sz x y w v l wr) (fun _ u _ => 3000 - (intOf u).toNat)
  case atStart => exact ⟨1, [], rfl, by omega, by omega, Found.start _ (by omega), hq3⟩
  case round =>
    clear hq3
    obtain ⟨n, l, rfl, h1, hnN, hf, hq⟩ := hrel
    obtain ⟨z0, z1⟩ := hq.z
    go_wp2_with fail
    (refine (slNorm_v _ k hN).mono ?_; rintro e w4 ⟨rfl, hb4⟩; have hz4 := hb4.size; (repeat (first | rw [World.size_alloc] at hz4 | rw [World.size_setCell] at hz4 | rw [World.size_drew] at hz4)); have pp := C2.K hb4 (b := w.heap.size) (x := _) (y := _) (by (repeat (first | ((with_reducible apply C2.mk) <;> (with_reducible assumption)) | (with_reducible apply C2.Z) | (with_reducible apply C2.O) | ((with_reducible apply C2.B); (focus (simp; done))) | (with_reducible apply C2.A) | (with_reducible apply C2.D) | ((with_reducible apply C2.S); focus ((repeat (first | rw [World.size_alloc] | rw [World.size_setCell] | rw [World.size_drew])); omega)) | ((with_reducible apply C2.K); (focus (with_reducible assumption)))))); obtain ⟨kk15, kk16⟩ := pp; (try clear kk13 kk14))
    have hqA := hq.below hb4
    clear hq z0 z1
    by_cases hle : (n : Int) ≤ N
    · have hd1 : decide ((n : Int) ≤ N) = true := decide_eq_true hle
      go_wp2_with fail
      (refine (slNorm_v _ k hN).mono ?_; rintro e w5 ⟨rfl, hb5⟩; have hz5 := hb5.size; (repeat (first | rw [World.size_alloc] at hz5 | rw [World.size_setCell] at hz5 | rw [World.size_drew] at hz5)); have pp := C2.K hb5 (b := w.heap.size) (x := _) (y := _) (by (repeat (first | ((with_reducible apply C2.mk) <;> (with_reducible assumption)) | (with_reducible apply C2.Z) | (with_reducible apply C2.O) | ((with_reducible apply C2.B); (focus (simp; done))) | (with_reducible apply C2.A) | (with_reducible apply C2.D) | ((with_reducible apply C2.S); focus ((repeat (first | rw [World.size_alloc] | rw [World.size_setCell] | rw [World.size_drew])); omega)) | ((with_reducible apply C2.K); (focus (with_reducible assumption)))))); obtain ⟨kk17, kk18⟩ := pp; (try clear kk15 kk16))
      have hqB := hqA.below hb5
      clear hqA hb4 hz4 hb5 hz5
      have hn0 : ((n : Int) == 0) = false := by simp; omega
      have hxb : -2000 ≤ N % n ∧ N % n ≤ 2000 := by
        have := Int.emod_nonneg N (show (n : Int) ≠ 0 by omega)
        have := Int.emod_lt_of_pos N (show 0 < (n : Int) by omega)
        omega
      obtain ⟨hx1, hx2⟩ := hxb
      by_cases hm : N % n = 0
      · have hm1 : (N % n == 0) = true := by simpa using hm
        have hm2 : (N % n != 0) = false := by simpa using hm
        clear hm
        go_wp2_with fail
        clear hm1 hm2 hx1 hx2
        go_loopw [3, 5] (fun v u wr => ∃ (a : Nat) (l : List (Int × Int)), u = .int .i64 (a : Int) ∧ 1 ≤ a ∧ a ≤ 45 ∧ Found (fun u v => vdO u v x y) n a 0 l ∧ Sz x y w v l wr) (fun _ u _ => 100 - (intOf u).toNat)
        case atStart => exact ⟨1, l, rfl, by omega, by omega, hf, hqB⟩
        case round =>
          clear hf hqB
          obtain ⟨a, l, rfl, ha1, ha45, hf, hq⟩ := hrel
          have haa : ((a * a : Nat) : Int) = (a : Int) * a := by simp
          have ha3 : a * a ≤ 2025 := Nat.mul_le_mul ha45 ha45
          by_cases hle2 : (a : Int) * a ≤ n
          · have hd3 : decide ((a : Int) * a ≤ n) = true := decide_eq_true hle2
            have ha44 : a ≤ 44 := by have := sq_le_44 (b := (a : Int)) (by omega); omega
            go_wp2_with fail
            go_loopw [3, 6] (fun v u wr => ∃ (b : Nat) (l : List (Int × Int)), u = .int .i64 (b : Int) ∧ b ≤ 45 ∧ Found (fun u v => vdO u v x y) n a b l ∧ Sz x y w v l wr) (fun _ u _ => 100 - (intOf u).toNat)
            case atStart => exact ⟨0, l, rfl, by omega, hf, hq⟩
            case round =>
              clear hf hq
              obtain ⟨b, l, rfl, hb45, hf, hq⟩ := hrel
              have hbb : ((b * b : Nat) : Int) = (b : Int) * b := by simp
              have hb3 : b * b ≤ 2025 := Nat.mul_le_mul hb45 hb45
              obtain ⟨z0, z1⟩ := hq.z
              by_cases hle3 : (a : Int) * a + b * b ≤ n
              · have hd4 : decide ((a : Int) * a + b * b ≤ n) = true := decide_eq_true hle3
                have hb44 : b ≤ 44 := by have := sq_le_44 (b := (b : Int)) (by omega); omega
                by_cases he : (a : Int) * a + b * b = n
                · have he' : ((a : Int) * a + b * b == n) = true := by rw [beq_iff_eq]; exact he
                  obtain ⟨o, ho⟩ : ∃ o, vdO a b x y = o := ⟨_, rfl⟩
                  go_wp2_with fail
                  (refine (sDividesOk_v _ ho).mono ?_; rintro e w6 ⟨rfl, hb6⟩; have hz6 := hb6.size; (repeat (first | rw [World.size_alloc] at hz6 | rw [World.size_setCell] at hz6 | rw [World.size_drew] at hz6)); have pp := C2.K hb6 (b := w.heap.size) (x := _) (y := _) (by (repeat (first | ((with_reducible apply C2.mk) <;> (with_reducible assumption)) | (with_reducible apply C2.Z) | (with_reducible apply C2.O) | ((with_reducible apply C2.B); (focus (simp; done))) | (with_reducible apply C2.A) | (with_reducible apply C2.D) | ((with_reducible apply C2.S); focus ((repeat (first | rw [World.size_alloc] | rw [World.size_setCell] | rw [World.size_drew])); omega)) | ((with_reducible apply C2.K); (focus (with_reducible assumption)))))); obtain ⟨kk19, kk20⟩ := pp; (try clear kk17 kk18))
                  have hqB := hq.below hb6
                  clear hq z0 z1
                  cases o
                  · have hf' := hf.miss (b := b) (fun h => by have h2 : vdO a b x y = true := h.2; rw [ho] at h2; cases h2)
                    go_wp2_with fail
                    go_roundw
                    case rel => exact ⟨b + 1, l, by simp, by omega, by simpa using hf', hqB⟩
                    case measure => simp [intOf]; omega
                  · have hf' := hf.hit (show (1 : Int) ≤ a by omega) (Int.natCast_nonneg b) he ho
                    have hl8 : l.length ≤ 8000000 := by have := found_len hf (by omega); omega
                    have hqC := hqB.below (wx := w6.alloc (.cells #[.int .i64 a, .int .i64 b] 24)) (by (repeat' (first | (with_reducible exact Below.refl _ _) | (with_reducible refine Below.alloc ?_ ?_ _) | (with_reducible refine Below.drew ?_) | (with_reducible refine Below.setCell ?_ ?_ _) | (with_reducible refine Below.trans ?_ (Below.mono (by assumption) ?_)) | go_size)))
                    have hsz := hqC.q.hi
                    go_wp2_with (at_builtin; refine appPl _ rfl _ _ rfl (w.heap.size + 1) _ l a b rfl hqC.q.g w6.heap.size rfl (by (repeat (first | (with_reducible assumption) | (with_reducible apply sameS) | ((with_reducible apply born); (focus (simp; done)); (focus rfl)) | (with_reducible apply keepA) | (with_reducible apply keepD) | ((with_reducible apply keepS); focus ((repeat (first | rw [World.size_alloc] | rw [World.size_setCell] | rw [World.size_drew])); omega)) | ((with_reducible apply keep); (focus (with_reducible assumption)))))) (by (repeat (first | (with_reducible assumption) | (with_reducible apply sameS) | ((with_reducible apply born); (focus (simp; done)); (focus rfl)) | (with_reducible apply keepA) | (with_reducible apply keepD) | ((with_reducible apply keepS); focus ((repeat (first | rw [World.size_alloc] | rw [World.size_setCell] | rw [World.size_drew])); omega)) | ((with_reducible apply keep); (focus (with_reducible assumption)))))) hl8 hsz ?_; intro g cap W4 hg4 hgr hat4 hlt4)
                    have hqD := hqC.app hg4 hgr
                    go_roundw
                    case rel => exact ⟨b + 1, _, by simp, by omega, by simpa using hf', hqD⟩
                    case measure => simp [intOf]; omega
                · have he' : ((a : Int) * a + b * b == n) = false := by rw [beq_eq_false_iff_ne]; exact he
                  have hf' := hf.miss (b := b) (fun h => he h.1)
                  go_wp2_with fail
                  go_roundw
                  case rel => exact ⟨b + 1, l, by simp, by omega, by simpa using hf', hq⟩
                  case measure => simp [intOf]; omega
              · have hd4 : decide ((a : Int) * a + b * b ≤ n) = false := decide_eq_false hle3
                have hf' := hf.nextA (Int.natCast_nonneg b) (Int.not_le.1 hle3)
                go_wp2_with fail
                go_roundw
                case rel => exact ⟨a + 1, l, by simp, by omega, by omega, by simpa using hf', hq⟩
                case measure => simp [intOf]; omega
          · have hd3 : decide ((a : Int) * a ≤ n) = false := decide_eq_false hle2
            have hf' := hf.nextN (Int.natCast_nonneg a) (Int.not_le.1 hle2)
            go_wp2_with fail
            go_roundw
            case rel => exact ⟨n + 1, l, by simp, by omega, by omega, by simpa using hf', hq⟩
            case measure => simp [intOf]; omega
      · have hm1 : (N % n == 0) = false := by simpa using hm
        have hm2 : (N % n != 0) = true := by simpa using hm
        have hf' := hf.skip (fun u v hq hv e => hm (by rw [← e, ← hN]; exact (vd_nrm hv hz).2.2.2.2))
        go_wp2_with fail
        go_roundw
        case rel => exact ⟨n + 1, l, by simp, by omega, by omega, by simpa using hf', hqB⟩
        case measure => simp [intOf]; omega
    · have hd1 : decide ((n : Int) ≤ N) = false := decide_eq_false hle
      have e : (n : Int) = N + 1 := by omega
      rw [e] at hf
      have hl : l = L := hf.all.one hdv
      subst hl
      go_wp2_with fail
      go_returns
      exact ⟨_, rfl, hqA.q.g.mono (by omega), hqA.q.b⟩
end Go.Proofs.Ytpjememmogaeiaa
