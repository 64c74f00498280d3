import Derived.Test.YtefihkhhahhboaaOc
namespace Go.Proofs.Ytefihkhhahhboaa
open Go Go.RowKit Go.Shelf
attribute [local go_sem] World.cell?_alloc_some cell?_alloc2_some cell?_alloc3_some cell?_alloc4_some frozen?_alloc_some frozen?_alloc2_some frozen?_alloc3_some World.cell?_setCell_far new_ne0 new_ne1 new_ne2 new_ne3 lt2 lt3 lt4 lt5 lt6 lt7 lt8 lt9
attribute [local go_sem ↓] eqG neG
attribute [local go_sem] Oper.semAt_some

theorem sl_next {xs : List (Array Value)} {i k : Nat} {x y u v : Int} {row : Array Value} (h : xs.drop i = sl k x y u v) (hr : xs[i]? = some row) :
    ∃ j p q r s, qA x y u v = p ∧ qB x y u v = q ∧ rA x y u v = r ∧ rB x y u v = s ∧ row = #[.agg #[.int .i64 u, .int .i64 v], .agg #[.int .i64 p, .int .i64 q]] ∧ xs.drop (i + 1) = sl j u v r s ∧ ¬ (u = 0 ∧ v = 0) ∧ k = j + 1 ∧ gc k x y u v = gc j u v r s ∧
      ∀ A A' B B' C C' D D', fc k x y u v A A' B B' C C' D D' = fc j u v r s C C' D D' (A - (p * C - q * C')) (A' - (p * C' + q * C)) (B - (p * D - q * D')) (B' - (p * D' + q * D)) := by
  have hne : xs.drop i = row :: xs.drop (i + 1) := by
    obtain ⟨hl, he⟩ := List.getElem?_eq_some_iff.1 hr
    rw [List.drop_eq_getElem_cons hl, he]
  cases k with
  | zero => rw [h] at hne; simp [sl] at hne
  | succ j =>
    by_cases hz : u = 0 ∧ v = 0
    · rw [h] at hne; simp [sl, hz] at hne
    · rw [h, sl, if_neg hz] at hne
      injection hne with h1 h2
      exact ⟨j, _, _, _, _, rfl, rfl, rfl, rfl, h1.symm, h2.symm, hz, rfl, by rw [gc, if_neg hz], fun A A' B B' C C' D D' => by rw [fc, if_neg hz]⟩
theorem sl_end {xs : List (Array Value)} {k : Nat} {x y u v : Int} (h : xs.drop xs.length = sl k x y u v) : gc k x y u v = (x, y) ∧ ∀ A A' B B' C C' D D', fc k x y u v A A' B B' C C' D D' = (A, A', B, B') := by
  have hne : sl k x y u v = [] := by rw [← h]; simp
  cases k with
  | zero => exact ⟨rfl, fun _ _ _ _ _ _ _ _ => rfl⟩
  | succ j =>
    by_cases hz : u = 0 ∧ v = 0
    · exact ⟨by rw [gc, if_pos hz], fun _ _ _ _ _ _ _ _ => by rw [fc, if_pos hz]⟩
    · rw [sl, if_neg hz] at hne; simp at hne

theorem iDividing (a b c d : Int) (w : World) : Calls Try.prog 55 #[.agg #[.int .i64 a, .int .i64 b], .agg #[.int .i64 c, .int .i64 d]] w fun e w' => ∃ Bz Bw, e = .returned (.func (.func 76) #[] #[.pointer (some ⟨Bz, 0, none⟩), .pointer (some ⟨Bw, 0, none⟩)]) ∧ Two w' Bz a b ∧ Two w' Bw c d ∧ Below w.heap.size w w' := by
  go_enter Try.func55, Try.ntmps55
  go_wp2_with fail
  go_returns
  exact ⟨_, _, rfl, (Two.of (by (repeat (first | ((with_reducible apply T2.mk) <;> (with_reducible assumption)) | (with_reducible apply T2.Z) | (with_reducible apply T2.O) | ((with_reducible apply T2.B); (focus (simp; done))) | (with_reducible apply T2.A) | (with_reducible apply T2.D) | ((with_reducible apply T2.S); focus ((repeat (first | rw [World.size_alloc] | rw [World.size_setCell] | rw [World.size_drew])); omega)) | ((with_reducible apply T2.K); (focus (with_reducible assumption))))))), (Two.of (by (repeat (first | ((with_reducible apply T2.mk) <;> (with_reducible assumption)) | (with_reducible apply T2.Z) | (with_reducible apply T2.O) | ((with_reducible apply T2.B); (focus (simp; done))) | (with_reducible apply T2.A) | (with_reducible apply T2.D) | ((with_reducible apply T2.S); focus ((repeat (first | rw [World.size_alloc] | rw [World.size_setCell] | rw [World.size_drew])); omega)) | ((with_reducible apply T2.K); (focus (with_reducible assumption))))))), by (repeat' (first | (with_reducible exact Below.refl _ _) | (with_reducible refine Below.alloc ?_ ?_ _) | (with_reducible refine Below.drew ?_) | (with_reducible refine Below.setCell ?_ ?_ _) | (with_reducible refine Below.trans ?_ (Below.mono (by assumption) ?_)) | go_size))⟩

theorem putC {W : World} {a : Addr} {v : Value} {D : Nat} {o o' : Obj} (hK : W.heap[D]? = some o) (ho : o.isCells = false) (h : W.cell? a = some v) : (W.putObj D o').cell? a = some v :=
  cell_kept h (grownBy_putObj' _ D _) (fun r e => by cases e; exact ⟨_, hK, ho⟩)
theorem sameTwo {V W : World} {b : Nat} {x y : Int} (e : W.heap[b]? = V.heap[b]?) (t : Two V b x y) : Two W b x y :=
  ⟨(World.cell?_of_block (a := ⟨b, 0, none⟩) e).trans t.c0, (World.cell?_of_block (a := ⟨b, 1, none⟩) e).trans t.c1, (World.frozen?_of_block (a := ⟨b, 0, none⟩) e).trans t.f0, (World.frozen?_of_block (a := ⟨b, 1, none⟩) e).trans t.f1⟩
/-- Between two rounds: what was divided by last. -/
def Il (xs : List (Array Value)) (g : Int × Int) (n₀ : World) (L R : Nat) (i : Nat) (W : World) : Prop := ∃ (k : Nat) (x y u v p q : Int), Two W L x y ∧ Two W R p q ∧ xs.drop i = sl k x y u v ∧ gc k x y u v = g ∧ Below n₀.heap.size n₀ W

set_option maxHeartbeats 4000000 in
theorem iLast (a b c d : Int) (w : World) (k1 : gok a b = true) (k2 : gok c d = true) : Calls Try.prog 43 #[.agg #[.int .i64 a, .int .i64 b], .agg #[.int .i64 c, .int .i64 d]] w fun e w' => e = .returned (.agg #[.int .i64 (gA a b c d), .int .i64 (gB a b c d)]) ∧ Below w.heap.size w w' := by
  obtain ⟨g, hg⟩ : ∃ g, gc 21 a b c d = g := ⟨_, rfl⟩
  rw [gA, gB, hg]
  refine (callsIn_wide (n := 9)).1 ?_
  refine callsIn_of_wp_marks Try.func43 rfl trivial ?_ rfl
  simp only [Try.ntmps43, List.size_toArray, List.length_cons, List.length_nil, Nat.reduceAdd, Nat.reduceSub, Array.replicate_succ, Array.replicate_zero, List.push_toArray, List.append_toArray, List.nil_append, List.cons_append]
  refine wpIn_wide.2 ?_
  go_wp2_with fail
  (refine (iDividing a b c d _).mono ?_; rintro e w1 ⟨Bz, Bw, rfl, tz, tw, hb1⟩; have hz1 := hb1.size; (repeat (first | rw [World.size_alloc] at hz1 | rw [World.size_setCell] at hz1 | rw [World.size_drew] at hz1)); have pp := T2.K hb1 (b := w.heap.size) (x := _) (y := _) (by (repeat (first | ((with_reducible apply T2.mk) <;> (with_reducible assumption)) | (with_reducible apply T2.Z) | (with_reducible apply T2.O) | ((with_reducible apply T2.B); (focus (simp; done))) | (with_reducible apply T2.A) | (with_reducible apply T2.D) | ((with_reducible apply T2.S); focus ((repeat (first | rw [World.size_alloc] | rw [World.size_setCell] | rw [World.size_drew])); omega)) | ((with_reducible apply T2.K); (focus (with_reducible assumption)))))); obtain ⟨kk1, kk2, fkk1, fkk2⟩ := pp; have pp := T2.K hb1 (b := w.heap.size + 1) (x := _) (y := _) (by (repeat (first | ((with_reducible apply T2.mk) <;> (with_reducible assumption)) | (with_reducible apply T2.Z) | (with_reducible apply T2.O) | ((with_reducible apply T2.B); (focus (simp; done))) | (with_reducible apply T2.A) | (with_reducible apply T2.D) | ((with_reducible apply T2.S); focus ((repeat (first | rw [World.size_alloc] | rw [World.size_setCell] | rw [World.size_drew])); omega)) | ((with_reducible apply T2.K); (focus (with_reducible assumption)))))); obtain ⟨kk3, kk4, fkk3, fkk4⟩ := pp; have pp := T2.K hb1 (b := w.heap.size + 1 + 1) (x := _) (y := _) (by (repeat (first | ((with_reducible apply T2.mk) <;> (with_reducible assumption)) | (with_reducible apply T2.Z) | (with_reducible apply T2.O) | ((with_reducible apply T2.B); (focus (simp; done))) | (with_reducible apply T2.A) | (with_reducible apply T2.D) | ((with_reducible apply T2.S); focus ((repeat (first | rw [World.size_alloc] | rw [World.size_setCell] | rw [World.size_drew])); omega)) | ((with_reducible apply T2.K); (focus (with_reducible assumption)))))); obtain ⟨kk5, kk6, fkk5, fkk6⟩ := pp; have pp := T2.K hb1 (b := w.heap.size + 1 + 1 + 1) (x := _) (y := _) (by (repeat (first | ((with_reducible apply T2.mk) <;> (with_reducible assumption)) | (with_reducible apply T2.Z) | (with_reducible apply T2.O) | ((with_reducible apply T2.B); (focus (simp; done))) | (with_reducible apply T2.A) | (with_reducible apply T2.D) | ((with_reducible apply T2.S); focus ((repeat (first | rw [World.size_alloc] | rw [World.size_setCell] | rw [World.size_drew])); omega)) | ((with_reducible apply T2.K); (focus (with_reducible assumption)))))); obtain ⟨kk7, kk8, fkk7, fkk8⟩ := pp)
  go_wp2_with fail
  refine (wpIn_wide (n := 9)).1 ?_
  refine wp_rangeOwn (xs := sl 21 a b c d) rfl (enters_of Try.func76 (by kernel_rfl) rfl) (dividing_gives a b c d Bz Bw w1 k1 k2 tz tw) (Below.refl _ _) (fun x hx => sl_two 21 a b c d x hx)
    (Il (sl 21 a b c d) g w (w.heap.size + 1 + 1 + 1) (w.heap.size + 1 + 1)) ?hI ?h0 ?round ?done
  case hI =>
    rintro i V W ⟨k, x, y, u, v, p, q, tL, tR, hd, hgc, hb⟩ hs hVW
    exact ⟨k, x, y, u, v, p, q, Below.two hVW (by omega) tL, Below.two hVW (by omega) tR, hd, hgc, hb.trans (hVW.mono (by omega))⟩
  case h0 => exact ⟨21, a, b, c, d, 0, 0, (Two.of (by (repeat (first | ((with_reducible apply T2.mk) <;> (with_reducible assumption)) | (with_reducible apply T2.Z) | (with_reducible apply T2.O) | ((with_reducible apply T2.B); (focus (simp; done))) | (with_reducible apply T2.A) | (with_reducible apply T2.D) | ((with_reducible apply T2.S); focus ((repeat (first | rw [World.size_alloc] | rw [World.size_setCell] | rw [World.size_drew])); omega)) | ((with_reducible apply T2.K); (focus (with_reducible assumption))))))), (Two.of (by (repeat (first | ((with_reducible apply T2.mk) <;> (with_reducible assumption)) | (with_reducible apply T2.Z) | (with_reducible apply T2.O) | ((with_reducible apply T2.B); (focus (simp; done))) | (with_reducible apply T2.A) | (with_reducible apply T2.D) | ((with_reducible apply T2.S); focus ((repeat (first | rw [World.size_alloc] | rw [World.size_setCell] | rw [World.size_drew])); omega)) | ((with_reducible apply T2.K); (focus (with_reducible assumption))))))), by simp, hg, by (repeat' (first | (with_reducible exact Below.refl _ _) | (with_reducible refine Below.alloc ?_ ?_ _) | (with_reducible refine Below.drew ?_) | (with_reducible refine Below.setCell ?_ ?_ _) | (with_reducible refine Below.trans ?_ (Below.mono (by assumption) ?_)) | go_size))⟩
  case round =>
    rintro l i row W hr ⟨k, x, y, u, v, p, q, ⟨l0, l1, l2, l3⟩, ⟨r0, r1, r2, r3⟩, hd, hgc, hb⟩ hs
    obtain ⟨j, p1, q1, r, s, -, -, -, -, rfl, hd', -, -, hgc', -⟩ := sl_next hd hr
    rw [hgc'] at hgc
    have HG := Lib.hid hgc
    have HD := Lib.hid hd'
    clear hgc hd hd' hgc' hr
    gi_wp2
    refine ⟨(After.refl _ _).alloc _, ?_⟩
    intro W2 hs2 hb2 hn2
    have tL := Below.two (b := w.heap.size + 1 + 1 + 1) hb2 (by omega) (Two.of (by (repeat (first | ((with_reducible apply T2.mk) <;> (with_reducible assumption)) | (with_reducible apply T2.Z) | (with_reducible apply T2.O) | ((with_reducible apply T2.B); (focus (simp; done))) | (with_reducible apply T2.A) | (with_reducible apply T2.D) | ((with_reducible apply T2.S); focus ((repeat (first | rw [World.size_alloc] | rw [World.size_setCell] | rw [World.size_drew])); omega)) | ((with_reducible apply T2.K); (focus (with_reducible assumption)))))))
    have tR := Below.two (b := w.heap.size + 1 + 1) hb2 (by omega) (Two.of (by (repeat (first | ((with_reducible apply T2.mk) <;> (with_reducible assumption)) | (with_reducible apply T2.Z) | (with_reducible apply T2.O) | ((with_reducible apply T2.B); (focus (simp; done))) | (with_reducible apply T2.A) | (with_reducible apply T2.D) | ((with_reducible apply T2.S); focus ((repeat (first | rw [World.size_alloc] | rw [World.size_setCell] | rw [World.size_drew])); omega)) | ((with_reducible apply T2.K); (focus (with_reducible assumption)))))))
    have tV := sameTwo (hn2 W.heap.size (Nat.le_refl _)) (x := u) (y := v) (Two.of (by (repeat (first | ((with_reducible apply T2.mk) <;> (with_reducible assumption)) | (with_reducible apply T2.Z) | (with_reducible apply T2.O) | ((with_reducible apply T2.B); (focus (simp; done))) | (with_reducible apply T2.A) | (with_reducible apply T2.D) | ((with_reducible apply T2.S); focus ((repeat (first | rw [World.size_alloc] | rw [World.size_setCell] | rw [World.size_drew])); omega)) | ((with_reducible apply T2.K); (focus (with_reducible assumption)))))))
    clear l0 l1 l2 l3 r0 r1 r2 r3 hn2
    have hb3 : Below w.heap.size w W2 := (hb.alloc (by omega) _).trans (hb2.mono (by omega))
    obtain ⟨l0, l1, l2, l3⟩ := tL
    obtain ⟨r0, r1, r2, r3⟩ := tR
    obtain ⟨v0, v1, -, -⟩ := tV
    have hs3 : w1.heap.size + 1 ≤ W2.heap.size := by rw [hs2, World.size_alloc]; omega
    gi_wp2
    exact ⟨⟨j, u, v, r, s, p, q, (Two.of (by (repeat (first | ((with_reducible apply T2.mk) <;> (with_reducible assumption)) | (with_reducible apply T2.Z) | (with_reducible apply T2.O) | ((with_reducible apply T2.B); (focus (simp; done))) | (with_reducible apply T2.A) | (with_reducible apply T2.D) | ((with_reducible apply T2.S); focus ((repeat (first | rw [World.size_alloc] | rw [World.size_setCell] | rw [World.size_drew])); omega)) | ((with_reducible apply T2.K); (focus (with_reducible assumption))))))), (Two.of (by (repeat (first | ((with_reducible apply T2.mk) <;> (with_reducible assumption)) | (with_reducible apply T2.Z) | (with_reducible apply T2.O) | ((with_reducible apply T2.B); (focus (simp; done))) | (with_reducible apply T2.A) | (with_reducible apply T2.D) | ((with_reducible apply T2.S); focus ((repeat (first | rw [World.size_alloc] | rw [World.size_setCell] | rw [World.size_drew])); omega)) | ((with_reducible apply T2.K); (focus (with_reducible assumption))))))), HD.out, HG.out, by (repeat' (first | (with_reducible exact Below.refl _ _) | (with_reducible refine Below.alloc ?_ ?_ _) | (with_reducible refine Below.drew ?_) | (with_reducible refine Below.setCell ?_ ?_ _) | (with_reducible refine Below.trans ?_ (Below.mono (by assumption) ?_)) | go_size))⟩, ((After.refl _ _).setCell (by dsimp only; omega) _).setCell (by dsimp only; omega) _⟩
  case done =>
    rintro D W hD ⟨k, x, y, u, v, p, q, ⟨l0, l1, l2, l3⟩, ⟨r0, r1, r2, r3⟩, hd, hgc, hb⟩ hK
    rw [(sl_end hd).1] at hgc
    subst hgc
    have HK := Lib.hid hK
    clear hK
    go_wp2_with fail
    have hK' := ((KeepsOthers.setCell W ⟨w.heap.size + 1 + 1, 0, none⟩ (.int .i64 x)).trans (KeepsOthers.setCell _ ⟨w.heap.size + 1 + 1, 1, none⟩ (.int .i64 y))).same D _ HK.out rfl
    have c0 := putC (o' := .deferred none) hK' rfl (a := ⟨w.heap.size + 1 + 1, 0, none⟩) (v := .int .i64 x) (by (repeat (first | (with_reducible assumption) | (with_reducible apply sameS) | ((with_reducible apply born); (focus (simp; done)); (focus rfl)) | (with_reducible apply keepA) | (with_reducible apply keepD) | ((with_reducible apply keepS); focus ((repeat (first | rw [World.size_alloc] | rw [World.size_setCell] | rw [World.size_drew])); omega)) | ((with_reducible apply keep); (focus (with_reducible assumption))))))
    have c1 := putC (o' := .deferred none) hK' rfl (a := ⟨w.heap.size + 1 + 1, 1, none⟩) (v := .int .i64 y) (by (repeat (first | (with_reducible assumption) | (with_reducible apply sameS) | ((with_reducible apply born); (focus (simp; done)); (focus rfl)) | (with_reducible apply keepA) | (with_reducible apply keepD) | ((with_reducible apply keepS); focus ((repeat (first | rw [World.size_alloc] | rw [World.size_setCell] | rw [World.size_drew])); omega)) | ((with_reducible apply keep); (focus (with_reducible assumption))))))
    refine ⟨by simp, .inl ⟨_, _, rfl, run_takeDeferred hK', ?_⟩⟩
    refine ⟨.agg #[.int .i64 x, .int .i64 y], by simp [results, Try.results43, go_sem, c0, c1], rfl, Below.trans ?_ (below_put _ (by omega) _)⟩
    (repeat' (first | (with_reducible exact Below.refl _ _) | (with_reducible refine Below.alloc ?_ ?_ _) | (with_reducible refine Below.drew ?_) | (with_reducible refine Below.setCell ?_ ?_ _) | (with_reducible refine Below.trans ?_ (Below.mono (by assumption) ?_)) | go_size))
end Go.Proofs.Ytefihkhhahhboaa
