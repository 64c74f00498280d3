import Derived.Test.YtggebkgfldmipaaOl
import Derived.Test.YtggebkgfldmipaaOe
import Derived.Test.YtggebkgfldmipaaOn
namespace Go.Proofs.Ytggebkgfldmipaa
open Go Go.RowKit
attribute [local go_sem] World.cell?_alloc_some cell?_alloc2_some cell?_alloc3_some cell?_alloc4_some frozen?_alloc_some frozen?_alloc2_some frozen?_alloc3_some World.cell?_setCell_far new_ne0 new_ne1 new_ne2 new_ne3 lt2 lt3 lt4 lt5 lt6 lt7 lt8 lt9
attribute [local go_sem ↓] eqG neG

/-- A product of which just the four products are bounded. -/
theorem slTimes_x {a b c d x y : Int} (w : World) (h1 : -1000000000000000000 ≤ a * c) (h2 : a * c ≤ 1000000000000000000) (h3 : -1000000000000000000 ≤ b * d) (h4 : b * d ≤ 1000000000000000000) (h5 : -1000000000000000000 ≤ a * d) (h6 : a * d ≤ 1000000000000000000) (h7 : -1000000000000000000 ≤ b * c) (h8 : b * c ≤ 1000000000000000000) (hx : a * c - b * d = x) (hy : a * d + b * c = y) :
    Calls Try.prog 38 #[.agg #[.int .i64 a, .int .i64 b], .agg #[.int .i64 c, .int .i64 d]] w fun e w' => e = .returned (.agg #[.int .i64 x, .int .i64 y]) ∧ Below w.heap.size w w' := by
  subst hx hy
  refine (slTimes a b c d w).mono ?_
  rintro e w' ⟨rfl, hb⟩
  refine ⟨?_, hb⟩
  rw [IntWalk.wrap64_in (a * c) (by omega), IntWalk.wrap64_in (b * d) (by omega), IntWalk.wrap64_in (a * d) (by omega), IntWalk.wrap64_in (b * c) (by omega), IntWalk.wrap64_in _ (by omega), IntWalk.wrap64_in _ (by omega)]
theorem Two.keep {V W : World} {b : Nat} {x y : Int} (h : Below V.heap.size V W) (t : Two V b x y) : Two W b x y := Below.two h t.lt t
theorem Two.alloc {W : World} {b : Nat} {x y : Int} {o : Obj} (t : Two W b x y) : Two (W.alloc o) b x y := ⟨keepA t.c0, keepA t.c1, keepFA t.c0 t.f0, keepFA t.c1 t.f1⟩
theorem Two.born {W : World} {b : Nat} {x y : Int} {T : TypeId} (hb : b = W.heap.size) : Two (W.alloc (.cells #[.int .i64 x, .int .i64 y] T)) b x y := ⟨Go.Proofs.Ytggebkgfldmipaa.born (l := [.int .i64 x, .int .i64 y]) hb rfl, Go.Proofs.Ytggebkgfldmipaa.born (l := [.int .i64 x, .int .i64 y]) hb rfl, bornF hb, bornF hb⟩
theorem Two.put {W : World} {b : Nat} {x y u v : Int} (t : Two W b x y) : Two ((W.setCell ⟨b, 0, none⟩ (.int .i64 u)).setCell ⟨b, 1, none⟩ (.int .i64 v)) b u v :=
  ⟨keepS (.inr (by omega)) (sameS t.c0), sameS (keepS (.inr (by omega)) t.c1), keepFS (keepFS t.f0), keepFS (keepFS t.f1)⟩
theorem Two.off {W : World} {b K : Nat} {x y : Int} {u v : Value} (hne : b ≠ K) (t : Two W b x y) : Two ((W.setCell ⟨K, 0, none⟩ u).setCell ⟨K, 1, none⟩ v) b x y := Two.set hne (Two.set hne t)
/-- What holds between two rounds of the reference. -/
def Lf (w : World) (nb n : Nat) (g : Int × Int) (F : Int × Int × Int × Int) (wr : World) : Prop := ∃ (i k : Nat) (x y u v A A' B B' C C' D D' : Int),
  Two wr w.heap.size x y ∧ Two wr (w.heap.size + 1) u v ∧ Two wr (w.heap.size + 1 + 1) 0 0 ∧ Two wr (w.heap.size + 1 + 1 + 1) 0 0 ∧ Two wr nb A A' ∧ Two wr (nb + 1) B B' ∧ Two wr (nb + 1 + 1) C C' ∧ Two wr (nb + 1 + 1 + 1) D D' ∧
  gok x y = true ∧ gok u v = true ∧ u * u + v * v < 2 ^ k ∧ gc k x y u v = g ∧ fc k x y u v A A' B B' C C' D D' = F ∧ FB i x y u v A A' B B' C C' D D' ∧ i + st k x y u v = n ∧ Below w.heap.size w wr

set_option maxRecDepth 100000 in
set_option maxHeartbeats 16000000 in
theorem sFactorsFor (a b c d : Int) (w : World) : Calls Try.prog 67 #[.agg #[.int .i64 a, .int .i64 b], .agg #[.int .i64 c, .int .i64 d]] w fun e w' => e = .returned (.tuple #[.agg #[.int .i64 (ffA a b c d), .int .i64 (ffB a b c d)], .agg #[.int .i64 (ffC a b c d), .int .i64 (ffD a b c d)], .bool (coO a b c d)]) ∧ Below w.heap.size w w' := by
  cases k1 : gok a b
  · have h : coO a b c d = false := by simp [coO, k1]
    obtain ⟨e1, e2, e3, e4⟩ := ff_f h
    rw [h, e1, e2, e3, e4]
    clear h e1 e2 e3 e4
    go_enter Try.func67, Try.ntmps67
    go_wp2_with fail
    (refine (sGaussOk _ _ _).mono ?_; rintro e w1 ⟨rfl, hb1⟩; have hz1 := hb1.size; (repeat (first | rw [World.size_alloc] at hz1 | rw [World.size_setCell] at hz1 | rw [World.size_drew] at hz1)); have pp := C2.K hb1 (b := w.heap.size) (x := _) (y := _) (c2A); obtain ⟨kk1, kk2⟩ := pp; have pp := C2.K hb1 (b := w.heap.size + 1) (x := _) (y := _) (c2A); obtain ⟨kk3, kk4⟩ := pp; have pp := T2.K hb1 (b := w.heap.size + 1 + 1) (x := _) (y := _) (t2A); obtain ⟨kk5, kk6, fkk5, fkk6⟩ := pp; have pp := T2.K hb1 (b := w.heap.size + 1 + 1 + 1) (x := _) (y := _) (t2A); obtain ⟨kk7, kk8, fkk7, fkk8⟩ := pp)
    go_wp2_with fail
    refine bodyPost_ret (v := .tuple #[.agg #[.int .i64 0, .int .i64 0], .agg #[.int .i64 0, .int .i64 0], .bool false]) (by simp [results, Try.results67, go_sem, *]) rfl ?_; exact ⟨rfl, blA⟩
  cases k2 : gok c d
  · have h : coO a b c d = false := by simp [coO, k2]
    obtain ⟨e1, e2, e3, e4⟩ := ff_f h
    rw [h, e1, e2, e3, e4]
    clear h e1 e2 e3 e4
    go_enter Try.func67, Try.ntmps67
    go_wp2_with fail
    (refine (sGaussOk _ _ _).mono ?_; rintro e w1 ⟨rfl, hb1⟩; have hz1 := hb1.size; (repeat (first | rw [World.size_alloc] at hz1 | rw [World.size_setCell] at hz1 | rw [World.size_drew] at hz1)); have pp := C2.K hb1 (b := w.heap.size) (x := _) (y := _) (c2A); obtain ⟨kk9, kk10⟩ := pp; have pp := C2.K hb1 (b := w.heap.size + 1) (x := _) (y := _) (c2A); obtain ⟨kk11, kk12⟩ := pp; have pp := T2.K hb1 (b := w.heap.size + 1 + 1) (x := _) (y := _) (t2A); obtain ⟨kk13, kk14, fkk13, fkk14⟩ := pp; have pp := T2.K hb1 (b := w.heap.size + 1 + 1 + 1) (x := _) (y := _) (t2A); obtain ⟨kk15, kk16, fkk15, fkk16⟩ := pp; (try clear kk1 kk2 kk3 kk4 kk5 kk6 fkk5 fkk6 kk7 kk8 fkk7 fkk8))
    go_wp2_with fail
    (refine (sGaussOk _ _ _).mono ?_; rintro e w2 ⟨rfl, hb2⟩; have hz2 := hb2.size; (repeat (first | rw [World.size_alloc] at hz2 | rw [World.size_setCell] at hz2 | rw [World.size_drew] at hz2)); have pp := C2.K hb2 (b := w.heap.size) (x := _) (y := _) (c2A); obtain ⟨kk17, kk18⟩ := pp; have pp := C2.K hb2 (b := w.heap.size + 1) (x := _) (y := _) (c2A); obtain ⟨kk19, kk20⟩ := pp; have pp := T2.K hb2 (b := w.heap.size + 1 + 1) (x := _) (y := _) (t2A); obtain ⟨kk21, kk22, fkk21, fkk22⟩ := pp; have pp := T2.K hb2 (b := w.heap.size + 1 + 1 + 1) (x := _) (y := _) (t2A); obtain ⟨kk23, kk24, fkk23, fkk24⟩ := pp; (try clear kk9 kk10 kk11 kk12 kk13 kk14 fkk13 fkk14 kk15 kk16 fkk15 fkk16))
    go_wp2_with fail
    refine bodyPost_ret (v := .tuple #[.agg #[.int .i64 0, .int .i64 0], .agg #[.int .i64 0, .int .i64 0], .bool false]) (by simp [results, Try.results67, go_sem, *]) rfl ?_; exact ⟨rfl, blA⟩
  have hO : coO a b c d = !((a == 0 && b == 0) && (c == 0 && d == 0)) := by simp [coO, k1, k2]
  rcases (show ((a == 0 && b == 0) = true ∧ (c == 0 && d == 0) = true) ∨ ((a == 0 && b == 0) = false ∧ (c == 0 && d == 0) = true) ∨ ((a == 0 && b == 0) = true ∧ (c == 0 && d == 0) = false) ∨ ((a == 0 && b == 0) = false ∧ (c == 0 && d == 0) = false) by cases (a == 0 && b == 0) <;> cases (c == 0 && d == 0) <;> simp) with ⟨z1, z2⟩ | hzz
  · rw [z1, z2] at hO
    simp only [Bool.and_true, Bool.not_true] at hO
    obtain ⟨e1, e2, e3, e4⟩ := ff_f hO
    rw [hO, e1, e2, e3, e4]
    clear hO e1 e2 e3 e4
    go_enter Try.func67, Try.ntmps67
    go_wp2_with fail
    (refine (sGaussOk _ _ _).mono ?_; rintro e w1 ⟨rfl, hb1⟩; have hz1 := hb1.size; (repeat (first | rw [World.size_alloc] at hz1 | rw [World.size_setCell] at hz1 | rw [World.size_drew] at hz1)); have pp := C2.K hb1 (b := w.heap.size) (x := _) (y := _) (c2A); obtain ⟨kk25, kk26⟩ := pp; have pp := C2.K hb1 (b := w.heap.size + 1) (x := _) (y := _) (c2A); obtain ⟨kk27, kk28⟩ := pp; have pp := T2.K hb1 (b := w.heap.size + 1 + 1) (x := _) (y := _) (t2A); obtain ⟨kk29, kk30, fkk29, fkk30⟩ := pp; have pp := T2.K hb1 (b := w.heap.size + 1 + 1 + 1) (x := _) (y := _) (t2A); obtain ⟨kk31, kk32, fkk31, fkk32⟩ := pp; (try clear kk17 kk18 kk19 kk20 kk21 kk22 fkk21 fkk22 kk23 kk24 fkk23 fkk24))
    go_wp2_with fail
    (refine (sGaussOk _ _ _).mono ?_; rintro e w2 ⟨rfl, hb2⟩; have hz2 := hb2.size; (repeat (first | rw [World.size_alloc] at hz2 | rw [World.size_setCell] at hz2 | rw [World.size_drew] at hz2)); have pp := C2.K hb2 (b := w.heap.size) (x := _) (y := _) (c2A); obtain ⟨kk33, kk34⟩ := pp; have pp := C2.K hb2 (b := w.heap.size + 1) (x := _) (y := _) (c2A); obtain ⟨kk35, kk36⟩ := pp; have pp := T2.K hb2 (b := w.heap.size + 1 + 1) (x := _) (y := _) (t2A); obtain ⟨kk37, kk38, fkk37, fkk38⟩ := pp; have pp := T2.K hb2 (b := w.heap.size + 1 + 1 + 1) (x := _) (y := _) (t2A); obtain ⟨kk39, kk40, fkk39, fkk40⟩ := pp; (try clear kk25 kk26 kk27 kk28 kk29 kk30 fkk29 fkk30 kk31 kk32 fkk31 fkk32))
    go_wp2_with fail
    refine bodyPost_ret (v := .tuple #[.agg #[.int .i64 0, .int .i64 0], .agg #[.int .i64 0, .int .i64 0], .bool false]) (by simp [results, Try.results67, go_sem, *]) rfl ?_; exact ⟨rfl, blA⟩
  have hO : coO a b c d = true := by
    rw [hO]
    rcases hzz with ⟨z1, z2⟩ | ⟨z1, z2⟩ | ⟨z1, z2⟩ <;> rw [z1, z2] <;> rfl
  obtain ⟨g, -⟩ := co_gok k1 k2
  obtain ⟨f1, f2, f3, f4'⟩ := ff_t hO
  obtain ⟨F, hF⟩ : ∃ F, f4 a b c d = F := ⟨_, rfl⟩
  obtain ⟨G, hG⟩ : ∃ G, gc 21 a b c d = G := ⟨_, rfl⟩
  obtain ⟨n, hn⟩ : ∃ n, st 21 a b c d = n := ⟨_, rfl⟩
  have hle : n ≤ 21 := by rw [← hn]; exact (st_le 21 a b c d (nrm_21 k2) k1 k2).1
  have hfk : fk a b c d = fiK G.1 G.2 := by rw [fk, gA, gB, hG]
  obtain ⟨U, hU⟩ : ∃ U, ffA a b c d = U := ⟨_, rfl⟩
  obtain ⟨U', hU'⟩ : ∃ U, ffB a b c d = U := ⟨_, rfl⟩
  obtain ⟨V, hV⟩ : ∃ U, ffC a b c d = U := ⟨_, rfl⟩
  obtain ⟨V', hV'⟩ : ∃ U, ffD a b c d = U := ⟨_, rfl⟩
  rw [hU, hF, hfk] at f1
  rw [hU', hF, hfk] at f2
  rw [hV, hF, hfk] at f3
  rw [hV', hF, hfk] at f4'
  rw [hU, hU', hV, hV', hO]
  have hn2 := nrm_21 k2
  have HR := Lib.hid (show U = tuA (fiK G.1 G.2) F.1 F.2.1 ∧ U' = tuB (fiK G.1 G.2) F.1 F.2.1 ∧ V = tuA (fiK G.1 G.2) F.2.2.1 F.2.2.2 ∧ V' = tuB (fiK G.1 G.2) F.2.2.1 F.2.2.2 from ⟨f1, f2, f3, f4'⟩)
  have HG := Lib.hid hG
  have HF := Lib.hid (show fc 21 a b c d 1 0 0 0 0 0 1 0 = F from hF)
  have HN := Lib.hid hn
  have HN2 := Lib.hid hn2
  clear f1 f2 f3 f4' hF hU hU' hV hV' hfk hG hn hn2 hO g
  go_enter Try.func67, Try.ntmps67
  go_upto_region 1 with fail
  refine wp_name ?_
  intro w0 hb0
  (have hz0 := hb0.size; (repeat (first | rw [World.size_alloc] at hz0 | rw [World.size_setCell] at hz0 | rw [World.size_drew] at hz0)); have pp := T2.K hb0 (b := w.heap.size) (x := _) (y := _) (t2A); obtain ⟨kk41, kk42, fkk41, fkk42⟩ := pp; have pp := T2.K hb0 (b := w.heap.size + 1) (x := _) (y := _) (t2A); obtain ⟨kk43, kk44, fkk43, fkk44⟩ := pp; have pp := T2.K hb0 (b := w.heap.size + 1 + 1) (x := _) (y := _) (t2A); obtain ⟨kk45, kk46, fkk45, fkk46⟩ := pp; have pp := T2.K hb0 (b := w.heap.size + 1 + 1 + 1) (x := _) (y := _) (t2A); obtain ⟨kk47, kk48, fkk47, fkk48⟩ := pp; (try clear kk33 kk34 kk35 kk36 kk37 kk38 fkk37 fkk38 kk39 kk40 fkk39 fkk40))
  go_cut [34] (fun v wx => v = .bool false ∧ Below w0.heap.size w0 wx)
  case first =>
    rcases hzz with ⟨z1, z2⟩ | ⟨z1, z2⟩ | ⟨z1, z2⟩
    all_goals
      go_wp2_with fail
      (refine (sGaussOk _ _ _).mono ?_; rintro e w1 ⟨rfl, hb1⟩; have hz1 := hb1.size; (repeat (first | rw [World.size_alloc] at hz1 | rw [World.size_setCell] at hz1 | rw [World.size_drew] at hz1)); have pp := T2.K hb1 (b := w.heap.size) (x := _) (y := _) (t2A); obtain ⟨kk49, kk50, fkk49, fkk50⟩ := pp; have pp := T2.K hb1 (b := w.heap.size + 1) (x := _) (y := _) (t2A); obtain ⟨kk51, kk52, fkk51, fkk52⟩ := pp; have pp := T2.K hb1 (b := w.heap.size + 1 + 1) (x := _) (y := _) (t2A); obtain ⟨kk53, kk54, fkk53, fkk54⟩ := pp; have pp := T2.K hb1 (b := w.heap.size + 1 + 1 + 1) (x := _) (y := _) (t2A); obtain ⟨kk55, kk56, fkk55, fkk56⟩ := pp; (try clear kk41 kk42 fkk41 fkk42 kk43 kk44 fkk43 fkk44 kk45 kk46 fkk45 fkk46 kk47 kk48 fkk47 fkk48))
      go_wp2_with fail
      (refine (sGaussOk _ _ _).mono ?_; rintro e w2 ⟨rfl, hb2⟩; have hz2 := hb2.size; (repeat (first | rw [World.size_alloc] at hz2 | rw [World.size_setCell] at hz2 | rw [World.size_drew] at hz2)); have pp := T2.K hb2 (b := w.heap.size) (x := _) (y := _) (t2A); obtain ⟨kk57, kk58, fkk57, fkk58⟩ := pp; have pp := T2.K hb2 (b := w.heap.size + 1) (x := _) (y := _) (t2A); obtain ⟨kk59, kk60, fkk59, fkk60⟩ := pp; have pp := T2.K hb2 (b := w.heap.size + 1 + 1) (x := _) (y := _) (t2A); obtain ⟨kk61, kk62, fkk61, fkk62⟩ := pp; have pp := T2.K hb2 (b := w.heap.size + 1 + 1 + 1) (x := _) (y := _) (t2A); obtain ⟨kk63, kk64, fkk63, fkk64⟩ := pp; (try clear kk49 kk50 fkk49 fkk50 kk51 kk52 fkk51 fkk52 kk53 kk54 fkk53 fkk54 kk55 kk56 fkk55 fkk56))
      go_wp2_with fail
      go_meet
      exact ⟨rfl, blA⟩
  case rest =>
    obtain ⟨rfl, hbx⟩ := hcut
    (have hzx := hbx.size; (repeat (first | rw [World.size_alloc] at hzx | rw [World.size_setCell] at hzx | rw [World.size_drew] at hzx)); have pp := T2.K hbx (b := w.heap.size) (x := _) (y := _) (t2A); obtain ⟨kk65, kk66, fkk65, fkk66⟩ := pp; have pp := T2.K hbx (b := w.heap.size + 1) (x := _) (y := _) (t2A); obtain ⟨kk67, kk68, fkk67, fkk68⟩ := pp; have pp := T2.K hbx (b := w.heap.size + 1 + 1) (x := _) (y := _) (t2A); obtain ⟨kk69, kk70, fkk69, fkk70⟩ := pp; have pp := T2.K hbx (b := w.heap.size + 1 + 1 + 1) (x := _) (y := _) (t2A); obtain ⟨kk71, kk72, fkk71, fkk72⟩ := pp; (try clear kk57 kk58 fkk57 fkk58 kk59 kk60 fkk59 fkk60 kk61 kk62 fkk61 fkk62 kk63 kk64 fkk63 fkk64))
    clear hzz
    go_wp2_with fail
    go_loopw [] (fun wr => Lf w wc.heap.size n G F wr) (fun wr => ms wr (w.heap.size + 1))
    case atStart => exact ⟨0, 21, a, b, c, d, 1, 0, 0, 0, 0, 0, 1, 0, (Two.of (t2A)), (Two.of (t2A)), (Two.of (t2A)), (Two.of (t2A)), (Two.of (t2A)), (Two.of (t2A)), (Two.of (t2A)), (Two.of (t2A)), k1, k2, HN2.out, HG.out, HF.out, .inl ⟨rfl, rfl, rfl, rfl, rfl, rfl, rfl, rfl, rfl⟩, by simpa using HN.out, blA⟩
    case round =>
      clear k1 k2 HN HN2 HG HF
      obtain ⟨i, k, x, y, u, v, A, A', B, B', C, C', D, D', tz, tw, t2, t3, tA, tB, tC, tD, k1, k2, hn, hg, hf, hFB, hst, hbr⟩ := hrel
      have hsr := hbr.size
      have hlr := tD.lt
      have hlz := t3.lt
      cases hz : (u == 0 && v == 0)
      · obtain ⟨j, r, s, p, q, -, hd, e1, e2, e3, e4, k3, hn', hgc, hst', hlt, hfc⟩ := step_gc k1 k2 hz hn
        have hnz : ¬ (u = 0 ∧ v = 0) := by rintro ⟨rfl, rfl⟩; simp at hz
        have hi : i ≤ 20 := by omega
        have hFB' := FB_step hFB k1 k2 hnz e1 e2 e3 e4
        obtain ⟨b1, b2, b3, b4, b5, b6, b7, b8⟩ := FB_bd hFB (by omega)
        obtain ⟨q1, q2, q3, q4⟩ := q_part k1 k2 (nz_pos hnz)
        rw [e1] at q1 q2
        rw [e2] at q3 q4
        obtain ⟨m1, m2, m3, m4, m5, m6, m7, m8⟩ := st_bd q1 q2 q3 q4 b5 b6
        obtain ⟨l1, l2, l3, l4, l5, l6, l7, l8⟩ := st_bd q1 q2 q3 q4 b7 b8
        obtain ⟨b1, b1'⟩ := b1
        obtain ⟨b2, b2'⟩ := b2
        obtain ⟨b3, b3'⟩ := b3
        obtain ⟨b4, b4'⟩ := b4
        rw [hfc A A' B B' C C' D D'] at hf
        rw [hgc] at hg
        rw [hst'] at hst
        obtain ⟨S, hS⟩ : ∃ X, p * C - q * C' = X := ⟨_, rfl⟩
        obtain ⟨S', hS'⟩ : ∃ X, p * C' + q * C = X := ⟨_, rfl⟩
        obtain ⟨T, hT⟩ : ∃ X, p * D - q * D' = X := ⟨_, rfl⟩
        obtain ⟨T', hT'⟩ : ∃ X, p * D' + q * D = X := ⟨_, rfl⟩
        rw [hS, hS', hT, hT'] at hf hFB'
        obtain ⟨X, hX⟩ : ∃ X, A - S = X := ⟨_, rfl⟩
        obtain ⟨X', hX'⟩ : ∃ X, A' - S' = X := ⟨_, rfl⟩
        obtain ⟨Y, hY⟩ : ∃ X, B - T = X := ⟨_, rfl⟩
        obtain ⟨Y', hY'⟩ : ∃ X, B' - T' = X := ⟨_, rfl⟩
        rw [hX, hX', hY, hY'] at hf hFB'
        have wX : IntKind.i64.wrap (A - S) = X := by rw [hX]; exact IntWalk.i64_in _ (by omega)
        have wX' : IntKind.i64.wrap (A' - S') = X' := by rw [hX']; exact IntWalk.i64_in _ (by omega)
        have wY : IntKind.i64.wrap (B - T) = Y := by rw [hY]; exact IntWalk.i64_in _ (by omega)
        have wY' : IntKind.i64.wrap (B' - T') = Y' := by rw [hY']; exact IntWalk.i64_in _ (by omega)
        have con1 : ∀ W, Calls Try.prog 38 #[.agg #[.int .i64 p, .int .i64 q], .agg #[.int .i64 C, .int .i64 C']] W fun e w' => e = .returned (.agg #[.int .i64 S, .int .i64 S']) ∧ Below W.heap.size W w' :=
          fun W => slTimes_x W (by omega) (by omega) (by omega) (by omega) (by omega) (by omega) (by omega) (by omega) hS hS'
        have con2 : ∀ W, Calls Try.prog 38 #[.agg #[.int .i64 p, .int .i64 q], .agg #[.int .i64 D, .int .i64 D']] W fun e w' => e = .returned (.agg #[.int .i64 T, .int .i64 T']) ∧ Below W.heap.size W w' :=
          fun W => slTimes_x W (by omega) (by omega) (by omega) (by omega) (by omega) (by omega) (by omega) (by omega) hT hT'
        have con0 : ∀ W, Calls Try.prog 51 #[.agg #[.int .i64 x, .int .i64 y], .agg #[.int .i64 u, .int .i64 v]] W fun e w' => e = .returned (.tuple #[.agg #[.int .i64 p, .int .i64 q], .agg #[.int .i64 r, .int .i64 s]]) ∧ Below W.heap.size W w' :=
          fun W => l3Divided_v W hd ⟨e1, e2, e3, e4⟩
        have Kon0 := Lib.hid con0
        have Kon1 := Lib.hid con1
        have Kon2 := Lib.hid con2
        have Hn := Lib.hid hn'
        have Hg := Lib.hid hg
        have Hf := Lib.hid hf
        have HB := Lib.hid hFB'
        have Hs := Lib.hid hst
        have Hl := Lib.hid hlt
        have HM := Lib.hid (ms_eq tw.c0 tw.c1)
        clear con0 con1 con2 hn hn' hg hf hFB hFB' hst hlt hgc hst' hfc hnz hS hS' hT hT' hX hX' hY hY' m1 m2 m3 m4 m5 m6 m7 m8 l1 l2 l3 l4 l5 l6 l7 l8 b1 b1' b2 b2' b3 b3' b4 b4' b5 b6 b7 b8 q1 q2 q3 q4 e1 e2 e3 e4 hd k1
        obtain ⟨tzc0, tzc1, tzc2, tzc3⟩ := id tz
        obtain ⟨twc0, twc1, twc2, twc3⟩ := id tw
        go_wp2_with fail
        refine (Kon0.out _).mono ?_
        rintro e w4 ⟨rfl, hb4⟩
        have hz4 := hb4.size
        clear tzc0 tzc1 tzc2 tzc3 twc0 twc1 twc2 twc3
        replace tz := Two.keep hb4 tz
        replace tw := Two.keep hb4 tw
        replace t2 := Two.keep hb4 t2
        replace t3 := Two.keep hb4 t3
        replace tA := Two.keep hb4 tA
        replace tB := Two.keep hb4 tB
        replace tC := Two.keep hb4 tC
        replace tD := Two.keep hb4 tD
        go_upto_region 9 with fail
        refine wp_name ?_
        intro w5 hb5
        have hz5 := hb5.size
        (repeat (first | rw [World.size_alloc] at hz5 | rw [World.size_setCell] at hz5 | rw [World.size_drew] at hz5))
        replace tz := Two.keep hb5 (Two.alloc (Two.alloc tz))
        replace tw := Two.keep hb5 (Two.alloc (Two.alloc tw))
        replace t2 := Two.keep hb5 (Two.alloc (Two.alloc t2))
        replace t3 := Two.keep hb5 (Two.alloc (Two.alloc t3))
        replace tA := Two.keep hb5 (Two.alloc (Two.alloc tA))
        replace tB := Two.keep hb5 (Two.alloc (Two.alloc tB))
        replace tC := Two.keep hb5 (Two.alloc (Two.alloc tC))
        replace tD := Two.keep hb5 (Two.alloc (Two.alloc tD))
        have tQ := Two.keep (b := w4.heap.size) hb5 (Two.alloc (Two.born rfl))
        have tR := Two.keep (b := w4.heap.size + 1) hb5 (Two.born (by rw [World.size_alloc]))
        obtain ⟨tQc0, tQc1, tQc2, tQc3⟩ := id tQ
        obtain ⟨tCc0, tCc1, tCc2, tCc3⟩ := id tC
        go_wp2_with fail
        refine (Kon1.out _).mono ?_
        rintro e w6 ⟨rfl, hb6⟩
        have hz6 := hb6.size
        clear tQc0 tQc1 tQc2 tQc3 tCc0 tCc1 tCc2 tCc3
        replace tz := Two.keep hb6 tz
        replace tw := Two.keep hb6 tw
        replace t2 := Two.keep hb6 t2
        replace t3 := Two.keep hb6 t3
        replace tA := Two.keep hb6 tA
        replace tB := Two.keep hb6 tB
        replace tC := Two.keep hb6 tC
        replace tD := Two.keep hb6 tD
        replace tQ := Two.keep hb6 tQ
        replace tR := Two.keep hb6 tR
        go_upto_region 10 with fail
        refine wp_name ?_
        intro w7 hb7
        have hz7 := hb7.size
        (repeat (first | rw [World.size_alloc] at hz7 | rw [World.size_setCell] at hz7 | rw [World.size_drew] at hz7))
        replace tz := Two.keep hb7 (Two.alloc tz)
        replace tw := Two.keep hb7 (Two.alloc tw)
        replace t2 := Two.keep hb7 (Two.alloc t2)
        replace t3 := Two.keep hb7 (Two.alloc t3)
        replace tA := Two.keep hb7 (Two.alloc tA)
        replace tB := Two.keep hb7 (Two.alloc tB)
        replace tC := Two.keep hb7 (Two.alloc tC)
        replace tD := Two.keep hb7 (Two.alloc tD)
        replace tQ := Two.keep hb7 (Two.alloc tQ)
        replace tR := Two.keep hb7 (Two.alloc tR)
        have tE := Two.keep (b := w6.heap.size) hb7 (Two.born rfl)
        obtain ⟨tQc0, tQc1, tQc2, tQc3⟩ := id tQ
        obtain ⟨tDc0, tDc1, tDc2, tDc3⟩ := id tD
        go_wp2_with fail
        refine (Kon2.out _).mono ?_
        rintro e w8 ⟨rfl, hb8⟩
        have hz8 := hb8.size
        clear tQc0 tQc1 tQc2 tQc3 tDc0 tDc1 tDc2 tDc3
        replace tz := Two.keep hb8 tz
        replace tw := Two.keep hb8 tw
        replace t2 := Two.keep hb8 t2
        replace t3 := Two.keep hb8 t3
        replace tA := Two.keep hb8 tA
        replace tB := Two.keep hb8 tB
        replace tC := Two.keep hb8 tC
        replace tD := Two.keep hb8 tD
        replace tQ := Two.keep hb8 tQ
        replace tR := Two.keep hb8 tR
        replace tE := Two.keep hb8 tE
        go_upto_region 11 with fail
        refine wp_name ?_
        intro w9 hb9
        have hz9 := hb9.size
        (repeat (first | rw [World.size_alloc] at hz9 | rw [World.size_setCell] at hz9 | rw [World.size_drew] at hz9))
        replace tz := Two.keep hb9 (Two.alloc tz)
        replace tw := Two.keep hb9 (Two.alloc tw)
        replace t2 := Two.keep hb9 (Two.alloc t2)
        replace t3 := Two.keep hb9 (Two.alloc t3)
        replace tA := Two.keep hb9 (Two.alloc tA)
        replace tB := Two.keep hb9 (Two.alloc tB)
        replace tC := Two.keep hb9 (Two.alloc tC)
        replace tD := Two.keep hb9 (Two.alloc tD)
        replace tR := Two.keep hb9 (Two.alloc tR)
        replace tE := Two.keep hb9 (Two.alloc tE)
        have tF := Two.keep (b := w8.heap.size) hb9 (Two.born rfl)
        clear tQ
        obtain ⟨tAc0, tAc1, tAc2, tAc3⟩ := id tA
        obtain ⟨tEc0, tEc1, tEc2, tEc3⟩ := id tE
        go_upto_region 12 with fail
        refine wp_name ?_
        intro w10 hb10
        have hz10 := hb10.size
        (repeat (first | rw [World.size_alloc] at hz10 | rw [World.size_setCell] at hz10 | rw [World.size_drew] at hz10))
        clear tAc0 tAc1 tAc2 tAc3 tEc0 tEc1 tEc2 tEc3
        replace tz := Two.keep hb10 (Two.off (by omega) tz)
        replace tw := Two.keep hb10 (Two.off (by omega) tw)
        replace t2 := Two.keep hb10 (Two.off (by omega) t2)
        replace t3 := Two.keep hb10 (Two.off (by omega) t3)
        replace tA := Two.keep hb10 (Two.off (by omega) tA)
        replace tB := Two.keep hb10 (Two.off (by omega) tB)
        replace tC := Two.keep hb10 (Two.off (by omega) tC)
        replace tD := Two.keep hb10 (Two.off (by omega) tD)
        replace tR := Two.keep hb10 (Two.off (by omega) tR)
        replace tE := Two.keep hb10 (Two.put tE)
        replace tF := Two.keep hb10 (Two.off (by omega) tF)
        obtain ⟨tBc0, tBc1, tBc2, tBc3⟩ := id tB
        obtain ⟨tFc0, tFc1, tFc2, tFc3⟩ := id tF
        go_upto_region 13 with fail
        refine wp_name ?_
        intro w11 hb11
        have hz11 := hb11.size
        (repeat (first | rw [World.size_alloc] at hz11 | rw [World.size_setCell] at hz11 | rw [World.size_drew] at hz11))
        clear tBc0 tBc1 tBc2 tBc3 tFc0 tFc1 tFc2 tFc3
        replace tz := Two.keep hb11 (Two.off (by omega) tz)
        replace tw := Two.keep hb11 (Two.off (by omega) tw)
        replace t2 := Two.keep hb11 (Two.off (by omega) t2)
        replace t3 := Two.keep hb11 (Two.off (by omega) t3)
        replace tA := Two.keep hb11 (Two.off (by omega) tA)
        replace tB := Two.keep hb11 (Two.off (by omega) tB)
        replace tC := Two.keep hb11 (Two.off (by omega) tC)
        replace tD := Two.keep hb11 (Two.off (by omega) tD)
        replace tR := Two.keep hb11 (Two.off (by omega) tR)
        replace tE := Two.keep hb11 (Two.off (by omega) tE)
        replace tF := Two.keep hb11 (Two.put tF)
        obtain ⟨tCc0, tCc1, tCc2, tCc3⟩ := id tC
        obtain ⟨tAc0, tAc1, tAc2, tAc3⟩ := id tA
        go_upto_region 14 with fail
        refine wp_name ?_
        intro w12 hb12
        have hz12 := hb12.size
        (repeat (first | rw [World.size_alloc] at hz12 | rw [World.size_setCell] at hz12 | rw [World.size_drew] at hz12))
        clear tCc0 tCc1 tCc2 tCc3 tAc0 tAc1 tAc2 tAc3
        replace tz := Two.keep hb12 (Two.off (by omega) tz)
        replace tw := Two.keep hb12 (Two.off (by omega) tw)
        replace t2 := Two.keep hb12 (Two.off (by omega) t2)
        replace t3 := Two.keep hb12 (Two.off (by omega) t3)
        replace tA := Two.keep hb12 (Two.put tA)
        replace tB := Two.keep hb12 (Two.off (by omega) tB)
        replace tC := Two.keep hb12 (Two.off (by omega) tC)
        replace tD := Two.keep hb12 (Two.off (by omega) tD)
        replace tR := Two.keep hb12 (Two.off (by omega) tR)
        replace tE := Two.keep hb12 (Two.off (by omega) tE)
        replace tF := Two.keep hb12 (Two.off (by omega) tF)
        obtain ⟨tDc0, tDc1, tDc2, tDc3⟩ := id tD
        obtain ⟨tBc0, tBc1, tBc2, tBc3⟩ := id tB
        go_upto_region 15 with fail
        refine wp_name ?_
        intro w13 hb13
        have hz13 := hb13.size
        (repeat (first | rw [World.size_alloc] at hz13 | rw [World.size_setCell] at hz13 | rw [World.size_drew] at hz13))
        clear tDc0 tDc1 tDc2 tDc3 tBc0 tBc1 tBc2 tBc3
        replace tz := Two.keep hb13 (Two.off (by omega) tz)
        replace tw := Two.keep hb13 (Two.off (by omega) tw)
        replace t2 := Two.keep hb13 (Two.off (by omega) t2)
        replace t3 := Two.keep hb13 (Two.off (by omega) t3)
        replace tA := Two.keep hb13 (Two.off (by omega) tA)
        replace tB := Two.keep hb13 (Two.put tB)
        replace tC := Two.keep hb13 (Two.off (by omega) tC)
        replace tD := Two.keep hb13 (Two.off (by omega) tD)
        replace tR := Two.keep hb13 (Two.off (by omega) tR)
        replace tE := Two.keep hb13 (Two.off (by omega) tE)
        replace tF := Two.keep hb13 (Two.off (by omega) tF)
        obtain ⟨tEc0, tEc1, tEc2, tEc3⟩ := id tE
        obtain ⟨tCc0, tCc1, tCc2, tCc3⟩ := id tC
        go_upto_region 16 with fail
        refine wp_name ?_
        intro w14 hb14
        have hz14 := hb14.size
        (repeat (first | rw [World.size_alloc] at hz14 | rw [World.size_setCell] at hz14 | rw [World.size_drew] at hz14))
        clear tEc0 tEc1 tEc2 tEc3 tCc0 tCc1 tCc2 tCc3
        replace tz := Two.keep hb14 (Two.off (by omega) tz)
        replace tw := Two.keep hb14 (Two.off (by omega) tw)
        replace t2 := Two.keep hb14 (Two.off (by omega) t2)
        replace t3 := Two.keep hb14 (Two.off (by omega) t3)
        replace tA := Two.keep hb14 (Two.off (by omega) tA)
        replace tB := Two.keep hb14 (Two.off (by omega) tB)
        replace tC := Two.keep hb14 (Two.put tC)
        replace tD := Two.keep hb14 (Two.off (by omega) tD)
        replace tR := Two.keep hb14 (Two.off (by omega) tR)
        replace tE := Two.keep hb14 (Two.off (by omega) tE)
        replace tF := Two.keep hb14 (Two.off (by omega) tF)
        clear tE
        obtain ⟨tFc0, tFc1, tFc2, tFc3⟩ := id tF
        obtain ⟨tDc0, tDc1, tDc2, tDc3⟩ := id tD
        go_upto_region 17 with fail
        refine wp_name ?_
        intro w15 hb15
        have hz15 := hb15.size
        (repeat (first | rw [World.size_alloc] at hz15 | rw [World.size_setCell] at hz15 | rw [World.size_drew] at hz15))
        clear tFc0 tFc1 tFc2 tFc3 tDc0 tDc1 tDc2 tDc3
        replace tz := Two.keep hb15 (Two.off (by omega) tz)
        replace tw := Two.keep hb15 (Two.off (by omega) tw)
        replace t2 := Two.keep hb15 (Two.off (by omega) t2)
        replace t3 := Two.keep hb15 (Two.off (by omega) t3)
        replace tA := Two.keep hb15 (Two.off (by omega) tA)
        replace tB := Two.keep hb15 (Two.off (by omega) tB)
        replace tC := Two.keep hb15 (Two.off (by omega) tC)
        replace tD := Two.keep hb15 (Two.put tD)
        replace tR := Two.keep hb15 (Two.off (by omega) tR)
        replace tF := Two.keep hb15 (Two.off (by omega) tF)
        clear tF
        obtain ⟨twc0, twc1, twc2, twc3⟩ := id tw
        obtain ⟨tzc0, tzc1, tzc2, tzc3⟩ := id tz
        go_upto_region 18 with fail
        refine wp_name ?_
        intro w16 hb16
        have hz16 := hb16.size
        (repeat (first | rw [World.size_alloc] at hz16 | rw [World.size_setCell] at hz16 | rw [World.size_drew] at hz16))
        clear twc0 twc1 twc2 twc3 tzc0 tzc1 tzc2 tzc3
        replace tz := Two.keep hb16 (Two.put tz)
        replace tw := Two.keep hb16 (Two.off (by omega) tw)
        replace t2 := Two.keep hb16 (Two.off (by omega) t2)
        replace t3 := Two.keep hb16 (Two.off (by omega) t3)
        replace tA := Two.keep hb16 (Two.off (by omega) tA)
        replace tB := Two.keep hb16 (Two.off (by omega) tB)
        replace tC := Two.keep hb16 (Two.off (by omega) tC)
        replace tD := Two.keep hb16 (Two.off (by omega) tD)
        replace tR := Two.keep hb16 (Two.off (by omega) tR)
        obtain ⟨tRc0, tRc1, tRc2, tRc3⟩ := id tR
        obtain ⟨twc0, twc1, twc2, twc3⟩ := id tw
        go_wp2_with fail
        go_roundw
        case rel => exact ⟨i + 1, j, u, v, r, s, C, C', D, D', X, X', Y, Y', Two.off (by omega) tz, Two.put tw, Two.off (by omega) t2, Two.off (by omega) t3, Two.off (by omega) tA, Two.off (by omega) tB, Two.off (by omega) tC, Two.off (by omega) tD, k2, k3, Hn.out, Hg.out, Hf.out, HB.out, by have := Hs.out; omega, blA⟩
        case measure => rw [ms_eq (c := r) (d := s) (Two.put tw).c0 (Two.put tw).c1, HM.out]; exact Hl.out
      · obtain ⟨rfl, rfl, e, -, hfc⟩ := end_gc (k := k) (x := x) (y := y) hz
        rw [e] at hg
        rw [hfc] at hf
        subst hg
        subst hf
        obtain ⟨r1, r2, r3, r4⟩ := HR.out
        dsimp only at r1 r2 r3 r4
        obtain ⟨h1, h2, h3, h4⟩ := gok_bd k1
        have hmb := fiK_bd x y
        obtain ⟨m, hm⟩ : ∃ m, fiK x y = m := ⟨_, rfl⟩
        rw [hm] at hmb r1 r2 r3 r4
        obtain ⟨t, ht⟩ : ∃ t, (4 - m) % 4 = t := ⟨_, rfl⟩
        have ht2 : (4 - t).tmod 4 = m := by rw [Int.tmod_eq_emod_of_nonneg (by omega)]; omega
        have hs4 : IntKind.i64.wrap (4 - t) = 4 - t := IntWalk.i64_in _ (by omega)
        obtain ⟨b1, b2, b3, b4, -, -, -, -⟩ := FB_bd hFB (by omega)
        obtain ⟨b1, b1'⟩ := b1
        obtain ⟨b2, b2'⟩ := b2
        obtain ⟨b3, b3'⟩ := b3
        obtain ⟨b4, b4'⟩ := b4
        have con0 : ∀ W, Calls Try.prog 79 #[.agg #[.int .i64 x, .int .i64 y]] W fun e w' => e = .returned (.tuple #[.agg #[.int .i64 (frA x y), .int .i64 (frB x y)], .int .i64 t]) ∧ Below W.heap.size W w' :=
          fun W => l2First_v W (by omega) (by omega) (by omega) (by omega) ⟨rfl, rfl, by rw [hm]; exact ht⟩
        have con1 : tuA m A A' = U ∧ tuB m A A' = U' := ⟨r1.symm, r2.symm⟩
        have con2 : tuA m B B' = V ∧ tuB m B B' = V' := ⟨r3.symm, r4.symm⟩
        have M0 := Lib.hid hmb
        have Kon0 := Lib.hid con0
        have Kon1 := Lib.hid con1
        have Kon2 := Lib.hid con2
        clear con0 con1 con2 e hfc hn hFB hst r1 r2 r3 r4 hm ht hmb h1 h2 h3 h4 HR k1 k2 hle
        obtain ⟨z0, z1, z2, z3⟩ := tz
        obtain ⟨y0, y1, y2, y3⟩ := tw
        obtain ⟨o0, o1, o2, o3⟩ := t2
        obtain ⟨p0, p1, p2, p3⟩ := t3
        obtain ⟨a0, a1, a2, a3⟩ := tA
        obtain ⟨g0, g1, g2, g3⟩ := tB
        go_wp2_with fail
        (refine (Kon0.out _).mono ?_; rintro e w4 ⟨rfl, hb4⟩; have hz4 := hb4.size; (repeat (first | rw [World.size_alloc] at hz4 | rw [World.size_setCell] at hz4 | rw [World.size_drew] at hz4)); have pp := T2.K hb4 (b := w.heap.size + 1 + 1) (x := _) (y := _) (t2A); obtain ⟨kk73, kk74, fkk73, fkk74⟩ := pp; have pp := T2.K hb4 (b := w.heap.size + 1 + 1 + 1) (x := _) (y := _) (t2A); obtain ⟨kk75, kk76, fkk75, fkk76⟩ := pp; have pp := C2.K hb4 (b := wc.heap.size) (x := _) (y := _) (c2A); obtain ⟨kk77, kk78⟩ := pp; have pp := C2.K hb4 (b := wc.heap.size + 1) (x := _) (y := _) (c2A); obtain ⟨kk79, kk80⟩ := pp; (try clear kk65 kk66 fkk65 fkk66 kk67 kk68 fkk67 fkk68 kk69 kk70 fkk69 fkk70 kk71 kk72 fkk71 fkk72))
        clear z0 z1 z2 z3 y0 y1 y2 y3 o0 o1 o2 o3 p0 p1 p2 p3 a0 a1 a2 a3 g0 g1 g2 g3 tC tD hz Kon0
        go_upto_region 20 with fail
        refine wp_name ?_
        intro w5 hb5
        (have hz5 := hb5.size; (repeat (first | rw [World.size_alloc] at hz5 | rw [World.size_setCell] at hz5 | rw [World.size_drew] at hz5)); have pp := T2.K hb5 (b := w.heap.size + 1 + 1) (x := _) (y := _) (t2A); obtain ⟨kk81, kk82, fkk81, fkk82⟩ := pp; have pp := T2.K hb5 (b := w.heap.size + 1 + 1 + 1) (x := _) (y := _) (t2A); obtain ⟨kk83, kk84, fkk83, fkk84⟩ := pp; have pp := C2.K hb5 (b := wc.heap.size) (x := _) (y := _) (c2A); obtain ⟨kk85, kk86⟩ := pp; have pp := C2.K hb5 (b := wc.heap.size + 1) (x := _) (y := _) (c2A); obtain ⟨kk87, kk88⟩ := pp; (try clear kk73 kk74 fkk73 fkk74 kk75 kk76 fkk75 fkk76 kk77 kk78 kk79 kk80))
        (go_region_held3 (fun w' => w'.cell? ⟨wc.heap.size, 0, none⟩ = some (.int .i64 (A)) ∧ w'.cell? ⟨wc.heap.size, 1, none⟩ = some (.int .i64 (A')) ∧ w'.cell? ⟨wc.heap.size + 1, 0, none⟩ = some (.int .i64 (B)) ∧ w'.cell? ⟨wc.heap.size + 1, 1, none⟩ = some (.int .i64 (B'))) (first | (go_keep; done) | ((try dsimp only); refine ⟨?_, ?_, ?_, ?_⟩ <;> exact kcA)) (first | (go_at_call 58; obtain ⟨q0, q1, q2, q3⟩ := ‹_ ∧ _ ∧ _ ∧ _›; refine (l2Turn_v m _ M0.out.1 M0.out.2 (by omega) (by omega) (by omega) (by omega) (by first | exact Kon1.out | exact Kon2.out)).mono ?_; rintro e w6 ⟨rfl, hb6⟩; have hz6 := hb6.size; (repeat (first | rw [World.size_alloc] at hz6 | rw [World.size_setCell] at hz6 | rw [World.size_drew] at hz6)); have kk89 := keep hb6 q0; have kk90 := keep hb6 q1; have kk91 := keep hb6 q2; have kk92 := keep hb6 q3; obtain ⟨hc6, hf6⟩ := bcell hb6; have pp := T2.K hb6 (b := w.heap.size + 1 + 1) (x := _) (y := _) (t2A); obtain ⟨kk93, kk94, fkk93, fkk94⟩ := pp; have pp := T2.K hb6 (b := w.heap.size + 1 + 1 + 1) (x := _) (y := _) (t2A); obtain ⟨kk95, kk96, fkk95, fkk96⟩ := pp; clear q0 q1 q2 q3)); (try clear kk81 kk82 fkk81 fkk82 kk83 kk84 fkk83 fkk84 kk85 kk86 kk87 kk88))
        all_goals go_wp2_with fail
        all_goals refine bodyPost_ret (v := .tuple #[.agg #[.int .i64 U, .int .i64 U'], .agg #[.int .i64 V, .int .i64 V'], .bool true]) (by simp [results, Try.results67, go_sem, *]) rfl ?_; exact ⟨rfl, blA⟩
theorem sFactorsFor_v {a b c d x y z t : Int} {o : Bool} (w : World) (h : coO a b c d = o ∧ ffA a b c d = x ∧ ffB a b c d = y ∧ ffC a b c d = z ∧ ffD a b c d = t) : Calls Try.prog 67 #[.agg #[.int .i64 a, .int .i64 b], .agg #[.int .i64 c, .int .i64 d]] w fun e w' => e = .returned (.tuple #[.agg #[.int .i64 x, .int .i64 y], .agg #[.int .i64 z, .int .i64 t], .bool o]) ∧ Below w.heap.size w w' := by
  obtain ⟨rfl, rfl, rfl, rfl, rfl⟩ := h; exact sFactorsFor a b c d w
end Go.Proofs.Ytggebkgfldmipaa
