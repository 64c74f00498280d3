import Derived.Test.YtggebkgfldmipaaOm
import Derived.Test.YtggebkgfldmipaaOe
import Derived.Deep.CutRange
namespace Go.Proofs.Ytggebkgfldmipaa
open Go Go.RowKit Go.Shelf
attribute [local go_sem] World.cell?_alloc_some cell?_alloc2_some cell?_alloc3_some cell?_alloc4_some frozen?_alloc_some frozen?_alloc2_some frozen?_alloc3_some World.cell?_setCell_far new_ne0 new_ne1 new_ne2 new_ne3 lt2 lt3 lt4 lt5 lt6 lt7 lt8 lt9
attribute [local go_sem ↓] eqG neG
attribute [local go_sem] Oper.semAt_some

/-- A block of eight parts that is not frozen. -/
structure Ei (W : World) (b : Nat) (A A' B B' C C' D D' : Int) : Prop where
  c0 : W.cell? ⟨b, 0, none⟩ = some (.int .i64 A)
  c1 : W.cell? ⟨b, 1, none⟩ = some (.int .i64 A')
  c2 : W.cell? ⟨b, 2, none⟩ = some (.int .i64 B)
  c3 : W.cell? ⟨b, 3, none⟩ = some (.int .i64 B')
  c4 : W.cell? ⟨b, 4, none⟩ = some (.int .i64 C)
  c5 : W.cell? ⟨b, 5, none⟩ = some (.int .i64 C')
  c6 : W.cell? ⟨b, 6, none⟩ = some (.int .i64 D)
  c7 : W.cell? ⟨b, 7, none⟩ = some (.int .i64 D')
  f0 : W.frozen? ⟨b, 0, none⟩ = false
  f1 : W.frozen? ⟨b, 1, none⟩ = false
  f2 : W.frozen? ⟨b, 2, none⟩ = false
  f3 : W.frozen? ⟨b, 3, none⟩ = false
  f4 : W.frozen? ⟨b, 4, none⟩ = false
  f5 : W.frozen? ⟨b, 5, none⟩ = false
  f6 : W.frozen? ⟨b, 6, none⟩ = false
  f7 : W.frozen? ⟨b, 7, none⟩ = false
theorem Ei.same {V W : World} {b : Nat} {A A' B B' C C' D D' : Int} (e : W.heap[b]? = V.heap[b]?) (t : Ei V b A A' B B' C C' D D') : Ei W b A A' B B' C C' D D' :=
  ⟨(World.cell?_of_block (a := ⟨b, 0, none⟩) e).trans t.c0, (World.cell?_of_block (a := ⟨b, 1, none⟩) e).trans t.c1, (World.cell?_of_block (a := ⟨b, 2, none⟩) e).trans t.c2, (World.cell?_of_block (a := ⟨b, 3, none⟩) e).trans t.c3,
   (World.cell?_of_block (a := ⟨b, 4, none⟩) e).trans t.c4, (World.cell?_of_block (a := ⟨b, 5, none⟩) e).trans t.c5, (World.cell?_of_block (a := ⟨b, 6, none⟩) e).trans t.c6, (World.cell?_of_block (a := ⟨b, 7, none⟩) e).trans t.c7, (World.frozen?_of_block (a := ⟨b, 0, none⟩) e).trans t.f0, (World.frozen?_of_block (a := ⟨b, 1, none⟩) e).trans t.f1, (World.frozen?_of_block (a := ⟨b, 2, none⟩) e).trans t.f2, (World.frozen?_of_block (a := ⟨b, 3, none⟩) e).trans t.f3, (World.frozen?_of_block (a := ⟨b, 4, none⟩) e).trans t.f4, (World.frozen?_of_block (a := ⟨b, 5, none⟩) e).trans t.f5, (World.frozen?_of_block (a := ⟨b, 6, none⟩) e).trans t.f6, (World.frozen?_of_block (a := ⟨b, 7, none⟩) e).trans t.f7⟩
theorem Ei.lt {W : World} {b : Nat} {A A' B B' C C' D D' : Int} (t : Ei W b A A' B B' C C' D D') : b < W.heap.size := World.block_lt_of_cell? _ _ t.c0
theorem Ei.keep {V W : World} {b : Nat} {A A' B B' C C' D D' : Int} (h : Below V.heap.size V W) (t : Ei V b A A' B B' C C' D D') : Ei W b A A' B B' C C' D D' := t.same (h.block _ t.lt)
theorem Two.lt {W : World} {b : Nat} {x y : Int} (t : Two W b x y) : b < W.heap.size := World.block_lt_of_cell? _ _ t.c0
/-- Between two rounds: the factors of what is divided, and of what is divided by. -/
def If (xs : List (Array Value)) (f : Int × Int × Int × Int) (n₀ : World) (a b c d : Int) (Kb : Nat) (i : Nat) (W : World) : Prop := ∃ (k : Nat) (x y u v A A' B B' C C' D D' : Int),
  Ei W Kb A A' B B' C C' D D' ∧ Two W n₀.heap.size a b ∧ Two W (n₀.heap.size + 1) c d ∧ Two W (n₀.heap.size + 1 + 1) 0 0 ∧ Two W (n₀.heap.size + 1 + 1 + 1) 0 0 ∧ gok x y = true ∧ gok u v = true ∧ xs.drop i = sl k x y u v ∧ fc k x y u v A A' B B' C C' D D' = f ∧ FB i x y u v A A' B B' C C' D D' ∧ Below n₀.heap.size n₀ W
/-- A return behind a range over a function. -/
theorem mark_ret {P : Program} {fn : Func} {tmps : Array Value} {W : World} {R : Ending → World → Prop} {D : Nat} (v : Value) (hK : W.heap[D]? = some (.deferred (some [])))
    (hr : ∀ W' : World, (∀ b, b ≠ D → W'.heap[b]? = W.heap[b]?) → (results fn tmps).run P W' = .ok v W') (hR : ∀ W' : World, Below D W W' → R (.returned v) W') :
    bodyPostM Fence.wide 9 P fn R .ret { tmps := tmps, defers := [{ target := .collected D, args := #[] }] } W :=
  ⟨by simp, .inl ⟨_, _, rfl, run_takeDeferred hK, v, hr _ (fun b hb => World.putObj_heap_other hb), hR _ (below_put W (Nat.le_refl _) _)⟩⟩
theorem Two.set {W : World} {b K i : Nat} {x y : Int} {v : Value} (hne : b ≠ K) (t : Two W b x y) : Two (W.setCell ⟨K, i, none⟩ v) b x y :=
  ⟨keepS (.inl hne) t.c0, keepS (.inl hne) t.c1, keepFS t.f0, keepFS t.f1⟩
theorem carry4 {W w1 : World} {b : Nat} (hb : Below W.heap.size W w1) (h : b < W.heap.size) :
    (w1.cell? ⟨b, 0, none⟩ = W.cell? ⟨b, 0, none⟩ ∧ w1.cell? ⟨b, 1, none⟩ = W.cell? ⟨b, 1, none⟩ ∧ w1.cell? ⟨b, 2, none⟩ = W.cell? ⟨b, 2, none⟩ ∧ w1.cell? ⟨b, 3, none⟩ = W.cell? ⟨b, 3, none⟩ ∧ w1.frozen? ⟨b, 0, none⟩ = W.frozen? ⟨b, 0, none⟩ ∧ w1.frozen? ⟨b, 1, none⟩ = W.frozen? ⟨b, 1, none⟩ ∧ w1.frozen? ⟨b, 2, none⟩ = W.frozen? ⟨b, 2, none⟩ ∧ w1.frozen? ⟨b, 3, none⟩ = W.frozen? ⟨b, 3, none⟩) ∧
    (w1.heap.size = b) = False ∧ (b = w1.heap.size) = False := by
  have hs := hb.size
  exact ⟨⟨hb.cell h, hb.cell h, hb.cell h, hb.cell h, hb.frozen h, hb.frozen h, hb.frozen h, hb.frozen h⟩, by simp; omega, by simp; omega⟩
/-- A block of four parts. -/
def CutS (W : World) (U U' V V' : Int) (v : Value) (wx : World) : Prop := ∃ X, v = .pointer (some ⟨X, 0, none⟩) ∧ W.heap.size ≤ X ∧ wx.cell? ⟨X, 0, none⟩ = some (.int .i64 U) ∧ wx.cell? ⟨X, 1, none⟩ = some (.int .i64 U') ∧ wx.cell? ⟨X, 2, none⟩ = some (.int .i64 V) ∧ wx.cell? ⟨X, 3, none⟩ = some (.int .i64 V') ∧ Below W.heap.size W wx
theorem tu_unit {k : Int} (h0 : 0 ≤ k) (h3 : k ≤ 3) (A A' : Int) : A * tuA k 1 0 - A' * tuB k 1 0 = tuA k A A' ∧ A * tuB k 1 0 + A' * tuA k 1 0 = tuB k A A' := by
  obtain rfl | rfl | rfl | rfl : k = 0 ∨ k = 1 ∨ k = 2 ∨ k = 3 := by omega
  · exact ⟨by show A * 1 - A' * 0 = A; omega, by show A * 0 + A' * 1 = A'; omega⟩
  · exact ⟨by show A * -0 - A' * 1 = -A'; omega, by show A * 1 + A' * -0 = A; omega⟩
  · exact ⟨by show A * -1 - A' * -0 = -A; omega, by show A * -0 + A' * -1 = -A'; omega⟩
  · exact ⟨by show A * 0 - A' * -1 = A'; omega, by show A * -1 + A' * 0 = -A; omega⟩
theorem unit_bd {k : Int} (h0 : 0 ≤ k) (h3 : k ≤ 3) : -1 ≤ tuA k 1 0 ∧ tuA k 1 0 ≤ 1 ∧ -1 ≤ tuB k 1 0 ∧ tuB k 1 0 ≤ 1 := by
  obtain rfl | rfl | rfl | rfl : k = 0 ∨ k = 1 ∨ k = 2 ∨ k = 3 := by omega
  all_goals decide
theorem heapS {W : World} {D : Nat} {x : Option (List Deferred)} {a : Addr} {v : Value} (h : W.heap[D]? = some (.deferred x)) : (W.setCell a v).heap[D]? = some (.deferred x) := (KeepsOthers.setCell W a v).same D _ h rfl
theorem heapDr {W : World} {D : Nat} {o : Obj} (h : W.heap[D]? = some o) : W.drew.heap[D]? = some o := h
theorem heapA {W : World} {D : Nat} {x : Option (List Deferred)} {o : Obj} (h : W.heap[D]? = some (.deferred x)) : (W.alloc o).heap[D]? = some (.deferred x) := (KeepsOthers.alloc W o).same D _ h rfl
theorem heapB {V W : World} {D : Nat} {o : Obj} (hb : Below V.heap.size V W) (h : V.heap[D]? = some o) : W.heap[D]? = some o := (hb.block D (Array.getElem?_eq_some_iff.1 h).1).trans h

set_option maxHeartbeats 8000000 in
theorem iFactorsFor (a b c d : Int) (w : World) : Calls Try.prog 66 #[.agg #[.int .i64 a, .int .i64 b], .agg #[.int .i64 c, .int .i64 d]] w fun e w' => e = .returned (.tuple #[.agg #[.int .i64 (ffA a b c d), .int .i64 (ffB a b c d)], .agg #[.int .i64 (ffC a b c d), .int .i64 (ffD a b c d)], .bool (coO a b c d)]) ∧ Below w.heap.size w w' := by
  refine (callsIn_wide (n := 9)).1 ?_
  cases hO : coO a b c d
  · obtain ⟨e1, e2, e3, e4⟩ := ff_f hO
    rw [e1, e2, e3, e4]
    clear e1 e2 e3 e4
    refine callsIn_of_wp_marks Try.func66 rfl trivial ?_ rfl
    simp only [Try.ntmps66, List.size_toArray, List.length_cons, List.length_nil, Nat.reduceAdd, Nat.reduceSub, Array.replicate_succ, Array.replicate_zero, List.push_toArray, List.append_toArray, List.nil_append, List.cons_append]
    refine wpIn_wide.2 ?_
    go_wp2_with fail
    (refine (iCommonOf_v _ ⟨hO, rfl, rfl⟩).mono ?_; rintro e w1 ⟨rfl, hb1⟩; have hz1 := hb1.size; (repeat (first | rw [World.size_alloc] at hz1 | rw [World.size_setCell] at hz1 | rw [World.size_drew] at hz1)); have pp := T2.K hb1 (b := w.heap.size + 1 + 1) (x := _) (y := _) (t2A); obtain ⟨kk1, kk2, fkk1, fkk2⟩ := pp; have pp := T2.K hb1 (b := w.heap.size + 1 + 1 + 1) (x := _) (y := _) (t2A); obtain ⟨kk3, kk4, fkk3, fkk4⟩ := pp)
    go_wp2_with fail
    refine ⟨.tuple #[.agg #[.int .i64 0, .int .i64 0], .agg #[.int .i64 0, .int .i64 0], .bool false], by simp [results, Try.results66, go_sem, *], rfl, blA⟩
  obtain ⟨k1, k2, -⟩ := co_is hO
  obtain ⟨g, -⟩ := co_gok k1 k2
  obtain ⟨F, hF⟩ : ∃ F, f4 a b c d = F := ⟨_, rfl⟩
  obtain ⟨f1, f2, f3, f4'⟩ := ff_t hO
  have hlen : (sl 21 a b c d).length ≤ 21 := by rw [sl_len]; exact (st_le 21 a b c d (nrm_21 k2) k1 k2).1
  have HF := Lib.hid hF
  have HL := Lib.hid hlen
  obtain ⟨U, hU⟩ : ∃ U, ffA a b c d = U := ⟨_, rfl⟩
  obtain ⟨U', hU'⟩ : ∃ U, ffB a b c d = U := ⟨_, rfl⟩
  obtain ⟨V, hV⟩ : ∃ U, ffC a b c d = U := ⟨_, rfl⟩
  obtain ⟨V', hV'⟩ : ∃ U, ffD a b c d = U := ⟨_, rfl⟩
  rw [hU] at f1
  rw [hU'] at f2
  rw [hV] at f3
  rw [hV'] at f4'
  rw [hU, hU', hV, hV']
  have HR := Lib.hid (show U = tuA (fk a b c d) F.1 F.2.1 ∧ U' = tuB (fk a b c d) F.1 F.2.1 ∧ V = tuA (fk a b c d) F.2.2.1 F.2.2.2 ∧ V' = tuB (fk a b c d) F.2.2.1 F.2.2.2 by rw [← hF]; exact ⟨f1, f2, f3, f4'⟩)
  clear f1 f2 f3 f4' hF hlen hU hU' hV hV'
  refine callsIn_of_wp_marks Try.func66 rfl trivial ?_ rfl
  simp only [Try.ntmps66, List.size_toArray, List.length_cons, List.length_nil, Nat.reduceAdd, Nat.reduceSub, Array.replicate_succ, Array.replicate_zero, List.push_toArray, List.append_toArray, List.nil_append, List.cons_append]
  refine wpIn_wide.2 ?_
  go_wp2_with fail
  (refine (iCommonOf_v _ ⟨hO, rfl, rfl⟩).mono ?_; rintro e w1 ⟨rfl, hb1⟩; have hz1 := hb1.size; (repeat (first | rw [World.size_alloc] at hz1 | rw [World.size_setCell] at hz1 | rw [World.size_drew] at hz1)); have pp := T2.K hb1 (b := w.heap.size) (x := _) (y := _) (t2A); obtain ⟨kk5, kk6, fkk5, fkk6⟩ := pp; have pp := T2.K hb1 (b := w.heap.size + 1) (x := _) (y := _) (t2A); obtain ⟨kk7, kk8, fkk7, fkk8⟩ := pp; have pp := T2.K hb1 (b := w.heap.size + 1 + 1) (x := _) (y := _) (t2A); obtain ⟨kk9, kk10, fkk9, fkk10⟩ := pp; have pp := T2.K hb1 (b := w.heap.size + 1 + 1 + 1) (x := _) (y := _) (t2A); obtain ⟨kk11, kk12, fkk11, fkk12⟩ := pp; (try clear kk1 kk2 fkk1 fkk2 kk3 kk4 fkk3 fkk4))
  go_upto_region 5 with fail
  refine wp_name ?_
  intro w2 hb2
  (have hz2 := hb2.size; (repeat (first | rw [World.size_alloc] at hz2 | rw [World.size_setCell] at hz2 | rw [World.size_drew] at hz2)); have pp := T2.K hb2 (b := w.heap.size) (x := _) (y := _) (t2A); obtain ⟨kk13, kk14, fkk13, fkk14⟩ := pp; have pp := T2.K hb2 (b := w.heap.size + 1) (x := _) (y := _) (t2A); obtain ⟨kk15, kk16, fkk15, fkk16⟩ := pp; have pp := T2.K hb2 (b := w.heap.size + 1 + 1) (x := _) (y := _) (t2A); obtain ⟨kk17, kk18, fkk17, fkk18⟩ := pp; have pp := T2.K hb2 (b := w.heap.size + 1 + 1 + 1) (x := _) (y := _) (t2A); obtain ⟨kk19, kk20, fkk19, fkk20⟩ := pp; have kk21 := keep hb2 (a := ⟨w1.heap.size + 1, 0, none⟩) (v := _) (kcA); have fkk21 := keepF hb2 (a := ⟨w1.heap.size + 1, 0, none⟩) (v := _) (kcA) (kfA); have kk22 := keep hb2 (a := ⟨w1.heap.size + 1, 1, none⟩) (v := _) (kcA); have fkk22 := keepF hb2 (a := ⟨w1.heap.size + 1, 1, none⟩) (v := _) (kcA) (kfA); have kk23 := keep hb2 (a := ⟨w1.heap.size + 1, 2, none⟩) (v := _) (kcA); have fkk23 := keepF hb2 (a := ⟨w1.heap.size + 1, 2, none⟩) (v := _) (kcA) (kfA); have kk24 := keep hb2 (a := ⟨w1.heap.size + 1, 3, none⟩) (v := _) (kcA); have fkk24 := keepF hb2 (a := ⟨w1.heap.size + 1, 3, none⟩) (v := _) (kcA) (kfA); have kk25 := keep hb2 (a := ⟨w1.heap.size + 1, 4, none⟩) (v := _) (kcA); have fkk25 := keepF hb2 (a := ⟨w1.heap.size + 1, 4, none⟩) (v := _) (kcA) (kfA); have kk26 := keep hb2 (a := ⟨w1.heap.size + 1, 5, none⟩) (v := _) (kcA); have fkk26 := keepF hb2 (a := ⟨w1.heap.size + 1, 5, none⟩) (v := _) (kcA) (kfA); have kk27 := keep hb2 (a := ⟨w1.heap.size + 1, 6, none⟩) (v := _) (kcA); have fkk27 := keepF hb2 (a := ⟨w1.heap.size + 1, 6, none⟩) (v := _) (kcA) (kfA); have kk28 := keep hb2 (a := ⟨w1.heap.size + 1, 7, none⟩) (v := _) (kcA); have fkk28 := keepF hb2 (a := ⟨w1.heap.size + 1, 7, none⟩) (v := _) (kcA) (kfA); (try clear kk5 kk6 fkk5 fkk6 kk7 kk8 fkk7 fkk8 kk9 kk10 fkk9 fkk10 kk11 kk12 fkk11 fkk12))
  go_wp2_with fail
  (refine (iDividing a b c d _).mono ?_; rintro e w3 ⟨Bz, Bw, rfl, tz, tw, hb3⟩; have hz3 := hb3.size; (repeat (first | rw [World.size_alloc] at hz3 | rw [World.size_setCell] at hz3 | rw [World.size_drew] at hz3)); have pp := T2.K hb3 (b := w.heap.size) (x := _) (y := _) (t2A); obtain ⟨kk29, kk30, fkk29, fkk30⟩ := pp; have pp := T2.K hb3 (b := w.heap.size + 1) (x := _) (y := _) (t2A); obtain ⟨kk31, kk32, fkk31, fkk32⟩ := pp; have pp := T2.K hb3 (b := w.heap.size + 1 + 1) (x := _) (y := _) (t2A); obtain ⟨kk33, kk34, fkk33, fkk34⟩ := pp; have pp := T2.K hb3 (b := w.heap.size + 1 + 1 + 1) (x := _) (y := _) (t2A); obtain ⟨kk35, kk36, fkk35, fkk36⟩ := pp; have kk37 := keep hb3 (a := ⟨w1.heap.size + 1, 0, none⟩) (v := _) (kcA); have fkk37 := keepF hb3 (a := ⟨w1.heap.size + 1, 0, none⟩) (v := _) (kcA) (kfA); have kk38 := keep hb3 (a := ⟨w1.heap.size + 1, 1, none⟩) (v := _) (kcA); have fkk38 := keepF hb3 (a := ⟨w1.heap.size + 1, 1, none⟩) (v := _) (kcA) (kfA); have kk39 := keep hb3 (a := ⟨w1.heap.size + 1, 2, none⟩) (v := _) (kcA); have fkk39 := keepF hb3 (a := ⟨w1.heap.size + 1, 2, none⟩) (v := _) (kcA) (kfA); have kk40 := keep hb3 (a := ⟨w1.heap.size + 1, 3, none⟩) (v := _) (kcA); have fkk40 := keepF hb3 (a := ⟨w1.heap.size + 1, 3, none⟩) (v := _) (kcA) (kfA); have kk41 := keep hb3 (a := ⟨w1.heap.size + 1, 4, none⟩) (v := _) (kcA); have fkk41 := keepF hb3 (a := ⟨w1.heap.size + 1, 4, none⟩) (v := _) (kcA) (kfA); have kk42 := keep hb3 (a := ⟨w1.heap.size + 1, 5, none⟩) (v := _) (kcA); have fkk42 := keepF hb3 (a := ⟨w1.heap.size + 1, 5, none⟩) (v := _) (kcA) (kfA); have kk43 := keep hb3 (a := ⟨w1.heap.size + 1, 6, none⟩) (v := _) (kcA); have fkk43 := keepF hb3 (a := ⟨w1.heap.size + 1, 6, none⟩) (v := _) (kcA) (kfA); have kk44 := keep hb3 (a := ⟨w1.heap.size + 1, 7, none⟩) (v := _) (kcA); have fkk44 := keepF hb3 (a := ⟨w1.heap.size + 1, 7, none⟩) (v := _) (kcA) (kfA); (try clear kk13 kk14 fkk13 fkk14 kk15 kk16 fkk15 fkk16 kk17 kk18 fkk17 fkk18 kk19 kk20 fkk19 fkk20 kk21 fkk21 kk22 fkk22 kk23 fkk23 kk24 fkk24 kk25 fkk25 kk26 fkk26 kk27 fkk27 kk28 fkk28))
  go_wp2_with fail
  refine (wpIn_wide (n := 9)).1 ?_
  have hb30 : Below w.heap.size w w3 := blA
  have hE3 : Ei w3 (w1.heap.size + 1) 1 0 0 0 0 0 1 0 := ⟨kcA, kcA, kcA, kcA, kcA, kcA, kcA, kcA, kfA, kfA, kfA, kfA, kfA, kfA, kfA, kfA⟩
  have t03 : Two w3 w.heap.size a b := (Two.of (t2A))
  have t13 : Two w3 (w.heap.size + 1) c d := (Two.of (t2A))
  have t23 : Two w3 (w.heap.size + 1 + 1) 0 0 := (Two.of (t2A))
  have t33 : Two w3 (w.heap.size + 1 + 1 + 1) 0 0 := (Two.of (t2A))
  have hK3 := hE3.lt
  obtain ⟨K, hKK⟩ : ∃ K, w1.heap.size + 1 = K := ⟨_, rfl⟩
  have hK4 : w.heap.size + 1 + 1 + 1 < K := by omega
  rw [hKK] at hE3 hK3 ⊢
  clear hb1 hb2 hb3 hz1 hz2 hz3 hKK
  clear kk29 fkk29 kk30 fkk30 kk31 fkk31 kk32 fkk32 kk33 fkk33 kk34 fkk34 kk35 fkk35 kk36 fkk36 kk37 fkk37 kk38 fkk38 kk39 fkk39 kk40 fkk40 kk41 fkk41 kk42 fkk42 kk43 fkk43 kk44 fkk44
  refine wp_rangeOwn (xs := sl 21 a b c d) rfl (enters_of Try.func85 (by kernel_rfl) rfl) (dividing_gives a b c d Bz Bw w3 k1 k2 tz tw) (Below.refl _ _) (fun x hx => sl_two 21 a b c d x hx)
    (If (sl 21 a b c d) F w a b c d K) ?hI ?h0 ?round ?done
  case hI =>
    rintro i V W ⟨k, x, y, u, v, A, A', B, B', C, C', D, D', tK, t0, t1, t2, t3, kx, ku, hd, hf, hFB, hb⟩ hs hVW
    exact ⟨k, x, y, u, v, A, A', B, B', C, C', D, D', tK.same (hVW.block _ hK3), Below.two hVW (by omega) t0, Below.two hVW (by omega) t1, Below.two hVW (by omega) t2, Below.two hVW (by omega) t3, kx, ku, hd, hf, hFB, hb.trans (hVW.mono (by omega))⟩
  case h0 => exact ⟨21, a, b, c, d, 1, 0, 0, 0, 0, 0, 1, 0, hE3, t03, t13, t23, t33, k1, k2, by simp, HF.out, .inl ⟨rfl, rfl, rfl, rfl, rfl, rfl, rfl, rfl, rfl⟩, hb30⟩
  case round =>
    clear hE3 t03 t13 t23 t33 hb30 tz tw
    rintro l i row W hr ⟨k, x, y, u, v, A, A', B, B', C, C', D, D', tK, t0, t1, t2, t3, kx, ku, hd, hf, hFB, hb⟩ hs
    have hi : i < 21 := by have := (List.getElem?_eq_some_iff.1 hr).1; have := HL.out; omega
    obtain ⟨j, p, q, r, s, e1, e2, e3, e4, rfl, hd', hz, -, -, hfc⟩ := sl_next hd hr
    rw [hfc] at hf
    have hFB' := FB_step hFB kx ku hz e1 e2 e3 e4
    obtain ⟨b1, b2, b3, b4, b5, b6, b7, b8⟩ := FB_bd hFB (by omega)
    obtain ⟨q1, q2, q3, q4⟩ := q_part kx ku (nz_pos hz)
    rw [e1] at q1 q2
    rw [e2] at q3 q4
    have krs := rest_gok (dv_mk kx ku hz)
    rw [e3, e4] at krs
    have con : ∀ W, Calls Try.prog 76 #[.agg #[.int .i64 A, .int .i64 A', .int .i64 B, .int .i64 B', .int .i64 C, .int .i64 C', .int .i64 D, .int .i64 D'], .agg #[.int .i64 p, .int .i64 q]] W fun e w' => e = .returned (.agg #[.int .i64 C, .int .i64 C', .int .i64 D, .int .i64 D', .int .i64 (A - (p * C - q * C')), .int .i64 (A' - (p * C' + q * C)), .int .i64 (B - (p * D - q * D')), .int .i64 (B' - (p * D' + q * D))]) ∧ Below W.heap.size W w' :=
      fun W => stepped W q1 q2 q3 q4 b1 b2 b3 b4 b5 b6 b7 b8 rfl rfl rfl rfl
    obtain ⟨X, hX⟩ : ∃ X, A - (p * C - q * C') = X := ⟨_, rfl⟩
    obtain ⟨X', hX'⟩ : ∃ X, A' - (p * C' + q * C) = X := ⟨_, rfl⟩
    obtain ⟨Y, hY⟩ : ∃ X, B - (p * D - q * D') = X := ⟨_, rfl⟩
    obtain ⟨Y', hY'⟩ : ∃ X, B' - (p * D' + q * D) = X := ⟨_, rfl⟩
    rw [hX, hX', hY, hY'] at hf hFB'
    simp only [hX, hX', hY, hY'] at con
    have HC := Lib.hid con
    have Hf := Lib.hid hf
    have HB := Lib.hid hFB'
    have Hd := Lib.hid hd'
    clear con hf hFB' hd' hd hfc hX hX' hY hY' hFB b1 b2 b3 b4 b5 b6 b7 b8 q1 q2 q3 q4 e1 e2 e3 e4 hz kx hr
    gi_wp2
    refine ⟨(After.refl _ _).alloc _, ?_⟩
    intro W2 hs2 hb2 hn2
    have tK2 : Ei W2 K A A' B B' C C' D D' := (tK.keep ((Below.refl _ W).alloc (Nat.le_refl _) _)).same (hb2.block _ hK3)
    have t02 := Below.two hb2 (by omega) (Below.two ((Below.refl _ W).alloc (Nat.le_refl _) _) t0.lt t0)
    have t12 := Below.two hb2 (by omega) (Below.two ((Below.refl _ W).alloc (Nat.le_refl _) _) t1.lt t1)
    have t22 := Below.two hb2 (by omega) (Below.two ((Below.refl _ W).alloc (Nat.le_refl _) _) t2.lt t2)
    have t32 := Below.two hb2 (by omega) (Below.two ((Below.refl _ W).alloc (Nat.le_refl _) _) t3.lt t3)
    have tV := sameTwo (hn2 W.heap.size (Nat.le_refl _)) (x := p) (y := q) (Two.of (t2A))
    have hb3 : Below w.heap.size w W2 := (hb.alloc (by omega) _).trans (hb2.mono (by omega))
    have hs3 : w3.heap.size + 1 ≤ W2.heap.size := by rw [hs2, World.size_alloc]; omega
    clear tK t0 t1 t2 t3 hn2 hb2 hb
    obtain ⟨c0, c1, c2, c3, c4, c5, c6, c7, f0, f1, f2, f3, f4, f5, f6, f7⟩ := tK2
    obtain ⟨v0, v1, -, -⟩ := tV
    gi_wp2_with fail
    refine ⟨trivial, ?_⟩
    refine (CallsIn.inRound l (callsIn_wide.2 (HC.out _))).mono ?_
    rintro e W4 ⟨rfl, hb4⟩
    obtain ⟨c0, c1, c2, c3, c4, c5, c6, c7, f0, f1, f2, f3, f4, f5, f6, f7⟩ := Ei.keep hb4 ⟨c0, c1, c2, c3, c4, c5, c6, c7, f0, f1, f2, f3, f4, f5, f6, f7⟩
    have u0 := Below.two hb4 t02.lt t02
    have u1 := Below.two hb4 t12.lt t12
    have u2 := Below.two hb4 t22.lt t22
    have u3 := Below.two hb4 t32.lt t32
    have hb5 : Below w.heap.size w W4 := hb3.trans (hb4.mono (by omega))
    have haf : After w3.heap.size W2 W4 := After.of_below hb4
    have hKw : w.heap.size ≤ K := by omega
    clear v0 v1 t02 t12 t22 t32 hb3 hb4
    gi_wp2
    refine ⟨⟨j, u, v, r, s, C, C', D, D', X, X', Y, Y', ⟨kcA, kcA, kcA, kcA, kcA, kcA, kcA, kcA, kfA, kfA, kfA, kfA, kfA, kfA, kfA, kfA⟩, ?_, ?_, ?_, ?_, ku, krs, Hd.out, Hf.out, HB.out, blA⟩, ?_⟩
    · (repeat (refine Two.set (by omega) ?_)); exact u0
    · (repeat (refine Two.set (by omega) ?_)); exact u1
    · (repeat (refine Two.set (by omega) ?_)); exact u2
    · (repeat (refine Two.set (by omega) ?_)); exact u3
    · (repeat (refine After.setCell ?_ (by dsimp only; omega) _)); exact haf
  case done =>
    clear hE3 t03 t13 t23 t33 hb30 tz tw
    rintro Dd W hD ⟨k, x, y, u, v, A, A', B, B', C, C', D, D', tK, t0, t1, t2, t3, -, -, hd, hf, hFB, hb⟩ hK
    have hlen := HL.out
    obtain ⟨b1, b2, b3, b4, -, -, -, -⟩ := FB_bd hFB hlen
    rw [(sl_end hd).2] at hf
    subst hf
    obtain ⟨r1, r2, r3, r4⟩ := HR.out
    obtain ⟨n, hn⟩ : ∃ n, fk a b c d = n := ⟨_, rfl⟩
    have hnb := fiK_bd (gA a b c d) (gB a b c d)
    rw [show fiK (gA a b c d) (gB a b c d) = n from hn] at hnb
    obtain ⟨p, hp⟩ : ∃ p, gA a b c d = p := ⟨_, rfl⟩
    obtain ⟨q, hq⟩ : ∃ q, gB a b c d = q := ⟨_, rfl⟩
    have hn' : fiK p q = n := by rw [← hp, ← hq]; exact hn
    rw [hp, hq] at g
    rw [hn] at r1 r2 r3 r4
    obtain ⟨e1, e2⟩ := tu_unit hnb.1 hnb.2 A A'
    obtain ⟨e3, e4⟩ := tu_unit hnb.1 hnb.2 B B'
    obtain ⟨x1, x2, y1, y2⟩ := unit_bd hnb.1 hnb.2
    dsimp only at r1 r2 r3 r4
    rw [← r1] at e1
    rw [← r2] at e2
    rw [← r3] at e3
    rw [← r4] at e4
    obtain ⟨xx, hxx⟩ : ∃ x, tuA n 1 0 = x := ⟨_, rfl⟩
    obtain ⟨yy, hyy⟩ : ∃ x, tuB n 1 0 = x := ⟨_, rfl⟩
    rw [hxx] at e1 e2 e3 e4 x1 x2
    rw [hyy] at e1 e2 e3 e4 y1 y2
    have HK := Lib.hid hK
    have con : ∀ W, Calls Try.prog 77 #[.agg #[.int .i64 A, .int .i64 A', .int .i64 B, .int .i64 B'], .agg #[.int .i64 xx, .int .i64 yy]] W fun e w' => e = .returned (.agg #[.int .i64 U, .int .i64 U', .int .i64 V, .int .i64 V']) ∧ Below W.heap.size W w' :=
      fun W => sumTimes W x1 x2 y1 y2 b1 b2 b3 b4 e1 e2 e3 e4
    have HC := Lib.hid con
    clear hK con e1 e2 e3 e4 r1 r2 r3 r4 hd hFB b1 b2 b3 b4 x1 x2 y1 y2 hn HF HL HR hlen
    have hKW := tK.lt
    obtain ⟨c0, c1, c2, c3, -, -, -, -, -, -, -, -, -, -, -, -⟩ := tK
    obtain ⟨z0, z1, -, -⟩ := t0
    obtain ⟨o0, o1, -, -⟩ := t1
    obtain ⟨s0, s1, s2, s3⟩ := t2
    obtain ⟨t0, t1, t2, t3⟩ := t3
    have hsW := hb.size
    go_upto_region 8 with fail
    refine wp_name ?_
    intro w5 hb5
    (have hz5 := hb5.size; (repeat (first | rw [World.size_alloc] at hz5 | rw [World.size_setCell] at hz5 | rw [World.size_drew] at hz5)); have kk45 := keep hb5 (a := ⟨K, 0, none⟩) (v := _) (kcA); have kk46 := keep hb5 (a := ⟨K, 1, none⟩) (v := _) (kcA); have kk47 := keep hb5 (a := ⟨K, 2, none⟩) (v := _) (kcA); have kk48 := keep hb5 (a := ⟨K, 3, none⟩) (v := _) (kcA); have pp := C2.K hb5 (b := w.heap.size) (x := _) (y := _) (c2A); obtain ⟨kk49, kk50⟩ := pp; have pp := C2.K hb5 (b := w.heap.size + 1) (x := _) (y := _) (c2A); obtain ⟨kk51, kk52⟩ := pp; have pp := T2.K hb5 (b := w.heap.size + 1 + 1) (x := _) (y := _) (t2A); obtain ⟨kk53, kk54, fkk53, fkk54⟩ := pp; have pp := T2.K hb5 (b := w.heap.size + 1 + 1 + 1) (x := _) (y := _) (t2A); obtain ⟨kk55, kk56, fkk55, fkk56⟩ := pp; (try clear kk29 kk30 fkk29 fkk30 kk31 kk32 fkk31 fkk32 kk33 kk34 fkk33 fkk34 kk35 kk36 fkk35 fkk36 kk37 fkk37 kk38 fkk38 kk39 fkk39 kk40 fkk40 kk41 fkk41 kk42 fkk42 kk43 fkk43 kk44 fkk44))
    have HK5 := Lib.hid (heapB hb5 HK.out)
    have hb51 : Below w.heap.size w w5 := blA
    clear HK hb5 hb
    go_cut [12] from 36 to 42 (fun v12 wx => CutS w5 U U' V V' v12 wx)
    case first =>
      (go_region_held3 (fun w' => w'.cell? ⟨K, 0, none⟩ = some (.int .i64 (A)) ∧ w'.cell? ⟨K, 1, none⟩ = some (.int .i64 (A')) ∧ w'.cell? ⟨K, 2, none⟩ = some (.int .i64 (B)) ∧ w'.cell? ⟨K, 3, none⟩ = some (.int .i64 (B')) ∧ w'.cell? ⟨w.heap.size, 0, none⟩ = some (.int .i64 (a)) ∧ w'.cell? ⟨w.heap.size, 1, none⟩ = some (.int .i64 (b)) ∧ w'.cell? ⟨w.heap.size + 1, 0, none⟩ = some (.int .i64 (c)) ∧ w'.cell? ⟨w.heap.size + 1, 1, none⟩ = some (.int .i64 (d))) (first | (go_keep; done) | ((try dsimp only); refine ⟨?_, ?_, ?_, ?_, ?_, ?_, ?_, ?_⟩ <;> exact kcA)) (first | (go_at_call 73; obtain ⟨q0, q1, q2, q3, q4, q5, q6, q7⟩ := ‹_ ∧ _ ∧ _ ∧ _ ∧ _ ∧ _ ∧ _ ∧ _›; refine (iLast_v _ k1 k2 hp hq).mono ?_; rintro e w6 ⟨rfl, hb6⟩; have hz6 := hb6.size; (repeat (first | rw [World.size_alloc] at hz6 | rw [World.size_setCell] at hz6 | rw [World.size_drew] at hz6)); have kk57 := keep hb6 q0; have kk58 := keep hb6 q1; have kk59 := keep hb6 q2; have kk60 := keep hb6 q3; have kk61 := keep hb6 q4; have kk62 := keep hb6 q5; have kk63 := keep hb6 q6; have kk64 := keep hb6 q7; obtain ⟨hc6, hf6⟩ := bcell hb6; (try have cc65 := carry4 hb6 (b := w5.heap.size) (by ((repeat (first | rw [World.size_alloc] | rw [World.size_setCell] | rw [World.size_drew])); omega))); clear q0 q1 q2 q3 q4 q5 q6 q7) | (go_at_call 78; obtain ⟨q0, q1, q2, q3, q4, q5, q6, q7⟩ := ‹_ ∧ _ ∧ _ ∧ _ ∧ _ ∧ _ ∧ _ ∧ _›; refine (iUnitTo _ g hn' hxx hyy).mono ?_; rintro e w7 ⟨rfl, hb7⟩; have hz7 := hb7.size; (repeat (first | rw [World.size_alloc] at hz7 | rw [World.size_setCell] at hz7 | rw [World.size_drew] at hz7)); have kk66 := keep hb7 q0; have kk67 := keep hb7 q1; have kk68 := keep hb7 q2; have kk69 := keep hb7 q3; have kk70 := keep hb7 q4; have kk71 := keep hb7 q5; have kk72 := keep hb7 q6; have kk73 := keep hb7 q7; obtain ⟨hc7, hf7⟩ := bcell hb7; (try have cc74 := carry4 hb7 (b := w5.heap.size) (by ((repeat (first | rw [World.size_alloc] | rw [World.size_setCell] | rw [World.size_drew])); omega))); (try have cc75 := carry4 hb7 (b := w6.heap.size) (by ((repeat (first | rw [World.size_alloc] | rw [World.size_setCell] | rw [World.size_drew])); omega))); clear q0 q1 q2 q3 q4 q5 q6 q7) | (go_at_call 77; obtain ⟨q0, q1, q2, q3, q4, q5, q6, q7⟩ := ‹_ ∧ _ ∧ _ ∧ _ ∧ _ ∧ _ ∧ _ ∧ _›; refine (HC.out _).mono ?_; rintro e w8 ⟨rfl, hb8⟩; have hz8 := hb8.size; (repeat (first | rw [World.size_alloc] at hz8 | rw [World.size_setCell] at hz8 | rw [World.size_drew] at hz8)); have kk76 := keep hb8 q0; have kk77 := keep hb8 q1; have kk78 := keep hb8 q2; have kk79 := keep hb8 q3; have kk80 := keep hb8 q4; have kk81 := keep hb8 q5; have kk82 := keep hb8 q6; have kk83 := keep hb8 q7; obtain ⟨hc8, hf8⟩ := bcell hb8; (try have cc84 := carry4 hb8 (b := w5.heap.size) (by ((repeat (first | rw [World.size_alloc] | rw [World.size_setCell] | rw [World.size_drew])); omega))); (try have cc85 := carry4 hb8 (b := w6.heap.size) (by ((repeat (first | rw [World.size_alloc] | rw [World.size_setCell] | rw [World.size_drew])); omega))); (try have cc86 := carry4 hb8 (b := w7.heap.size) (by ((repeat (first | rw [World.size_alloc] | rw [World.size_setCell] | rw [World.size_drew])); omega))); clear q0 q1 q2 q3 q4 q5 q6 q7)); (try clear kk45 kk46 kk47 kk48 kk49 kk50 kk51 kk52 kk53 kk54 fkk53 fkk54 kk55 kk56 fkk55 fkk56))
      all_goals (go_wp2_with fail; go_meet; exact ⟨_, rfl, by ((repeat (first | rw [World.size_alloc] | rw [World.size_setCell] | rw [World.size_drew])); omega), kcA, kcA, kcA, kcA, blA⟩)
    case rest =>
      obtain ⟨X, rfl, mX, m0, m1, m2, m3, hbx⟩ := hcut
      have hX := World.block_lt_of_cell? _ _ m0
      simp only at hX
      (have hzx := hbx.size; (repeat (first | rw [World.size_alloc] at hzx | rw [World.size_setCell] at hzx | rw [World.size_drew] at hzx)); have pp := T2.K hbx (b := w.heap.size + 1 + 1) (x := _) (y := _) (t2A); obtain ⟨kk87, kk88, fkk87, fkk88⟩ := pp; have pp := T2.K hbx (b := w.heap.size + 1 + 1 + 1) (x := _) (y := _) (t2A); obtain ⟨kk89, kk90, fkk89, fkk90⟩ := pp; (try clear kk57 kk58 kk59 kk60 kk61 kk62 kk63 kk64 kk66 kk67 kk68 kk69 kk70 kk71 kk72 kk73 kk76 kk77 kk78 kk79 kk80 kk81 kk82 kk83))
      have HKx := Lib.hid (heapB hbx HK5.out)
      clear HK5
      go_upto_region 9 with fail
      go_region
      all_goals go_wp2_with fail
      all_goals
        refine mark_ret (.tuple #[.agg #[.int .i64 U, .int .i64 U'], .agg #[.int .i64 V, .int .i64 V'], .bool true]) ?_ ?_ ?_
        · (repeat (first | exact HKx.out | (with_reducible apply heapS) | (with_reducible apply heapDr)))
        · intro W' hW'
          have q0 : W'.cell? ⟨w.heap.size + 1 + 1, 0, none⟩ = some (.int .i64 U) := (World.cell?_of_block (a := ⟨w.heap.size + 1 + 1, 0, none⟩) (hW' _ (by dsimp only; omega))).trans (kcA)
          have q1 : W'.cell? ⟨w.heap.size + 1 + 1, 1, none⟩ = some (.int .i64 U') := (World.cell?_of_block (a := ⟨w.heap.size + 1 + 1, 1, none⟩) (hW' _ (by dsimp only; omega))).trans (kcA)
          have q2 : W'.cell? ⟨w.heap.size + 1 + 1 + 1, 0, none⟩ = some (.int .i64 V) := (World.cell?_of_block (a := ⟨w.heap.size + 1 + 1 + 1, 0, none⟩) (hW' _ (by dsimp only; omega))).trans (kcA)
          have q3 : W'.cell? ⟨w.heap.size + 1 + 1 + 1, 1, none⟩ = some (.int .i64 V') := (World.cell?_of_block (a := ⟨w.heap.size + 1 + 1 + 1, 1, none⟩) (hW' _ (by dsimp only; omega))).trans (kcA)
          simp [results, Try.results66, go_sem, q0, q1, q2, q3]
        · intro W' h
          refine ⟨rfl, Below.trans ?_ (Below.mono h (by omega))⟩
          exact blA
theorem iFactorsFor_v {a b c d x y z t : Int} {o : Bool} (w : World) (h : coO a b c d = o ∧ ffA a b c d = x ∧ ffB a b c d = y ∧ ffC a b c d = z ∧ ffD a b c d = t) : Calls Try.prog 66 #[.agg #[.int .i64 a, .int .i64 b], .agg #[.int .i64 c, .int .i64 d]] w fun e w' => e = .returned (.tuple #[.agg #[.int .i64 x, .int .i64 y], .agg #[.int .i64 z, .int .i64 t], .bool o]) ∧ Below w.heap.size w w' := by
  obtain ⟨rfl, rfl, rfl, rfl, rfl⟩ := h; exact iFactorsFor a b c d w
end Go.Proofs.Ytggebkgfldmipaa
