import Derived.Test.YtggebkgfldmipaaOa
import Derived.Test.YtggebkgfldmipaaOb
import Derived.Test.YtggebkgfldmipaaJp
import Derived.RangeFuncNested
import Derived.Shelf.RegionOpen
import Derived.OwnWalkIn
import Derived.TacticsInMore
namespace Go.Proofs.Ytggebkgfldmipaa
open Go Go.RowKit Go.Shelf
attribute [local go_sem] World.cell?_alloc_some cell?_alloc2_some cell?_alloc3_some cell?_alloc4_some frozen?_alloc_some frozen?_alloc2_some frozen?_alloc3_some World.cell?_setCell_far new_ne0 new_ne1 new_ne2 new_ne3 lt2 lt3 lt4 lt5 lt6 lt7 lt8 lt9
attribute [local go_sem ↓] eqG neG
attribute [local go_sem] Oper.semAt_some

/-- What dividing hands over, step by step: what is divided by, and the quotient. -/
def sl : Nat → Int → Int → Int → Int → List (Array Value)
  | 0, _, _, _, _ => []
  | k + 1, a, b, c, d => if c = 0 ∧ d = 0 then [] else #[.agg #[.int .i64 c, .int .i64 d], .agg #[.int .i64 (qA a b c d), .int .i64 (qB a b c d)]] :: sl k c d (rA a b c d) (rB a b c d)
theorem sl_len (k : Nat) : ∀ a b c d : Int, (sl k a b c d).length = st k a b c d := by
  induction k with
  | zero => intro a b c d; rfl
  | succ k ih =>
    intro a b c d
    by_cases hz : c = 0 ∧ d = 0
    · simp [sl, st, hz]
    · simp [sl, st, hz, ih]
theorem sl_two (k : Nat) : ∀ a b c d : Int, ∀ x ∈ sl k a b c d, x.size = 2 := by
  induction k with
  | zero => intro a b c d x hx; simp [sl] at hx
  | succ k ih =>
    intro a b c d x hx
    by_cases hz : c = 0 ∧ d = 0
    · simp [sl, hz] at hx
    · simp only [sl, if_neg hz, List.mem_cons] at hx
      rcases hx with rfl | hx
      · rfl
      · exact ih _ _ _ _ x hx
theorem step_sl {k j : Nat} {x y u v r s p q : Int} (hz : (u == 0 && v == 0) = false) (hk : k = j + 1) (e1 : qA x y u v = p) (e2 : qB x y u v = q) (e3 : rA x y u v = r) (e4 : rB x y u v = s) :
    sl k x y u v = #[.agg #[.int .i64 u, .int .i64 v], .agg #[.int .i64 p, .int .i64 q]] :: sl j u v r s := by
  have hnz : ¬ (u = 0 ∧ v = 0) := by rintro ⟨rfl, rfl⟩; simp at hz
  subst hk e1 e2 e3 e4
  rw [sl, if_neg hnz]
theorem end_sl (k : Nat) (x y : Int) : sl k x y 0 0 = [] := by cases k <;> simp [sl]

theorem After.two {B : Nat} {V W : World} (h : After B V W) {b : Nat} {x y : Int} (hb : B ≤ b) (t : Two V b x y) : Two W b x y := by
  have hl : b < V.heap.size := World.block_lt_of_cell? _ _ t.c0
  have e := h.block _ hb hl
  exact ⟨h.cell hb t.c0, h.cell hb t.c1, (World.frozen?_of_block (a := ⟨b, 0, none⟩) e).trans t.f0, (World.frozen?_of_block (a := ⟨b, 1, none⟩) e).trans t.f1⟩
theorem Below.two {B : Nat} {V W : World} (h : Below B V W) {b : Nat} {x y : Int} (hb : b < B) (t : Two V b x y) : Two W b x y :=
  ⟨(h.cell (p := ⟨b, 0, none⟩) hb).trans t.c0, (h.cell (p := ⟨b, 1, none⟩) hb).trans t.c1, (h.frozen (p := ⟨b, 0, none⟩) hb).trans t.f0, (h.frozen (p := ⟨b, 1, none⟩) hb).trans t.f1⟩
/-- The two numbers that the iterator keeps. -/
def CutD (W : World) (a b c d : Int) (v u : Value) (wx : World) : Prop := ∃ X Y, v = .pointer (some ⟨X, 0, none⟩) ∧ u = .pointer (some ⟨Y, 0, none⟩) ∧ X ≠ Y ∧ W.heap.size ≤ X ∧ W.heap.size ≤ Y ∧ Two wx X a b ∧ Two wx Y c d ∧ Below W.heap.size W wx
/-- What holds between two rounds of the iterator. -/
def It (W : World) (J : Nat → World → Prop) (xs : List (Array Value)) (X Y : Nat) (wr : World) : Prop := ∃ (i k : Nat) (x y u v : Int), Two wr X x y ∧ Two wr Y u v ∧ gok x y = true ∧ gok u v = true ∧ u * u + v * v < 2 ^ k ∧ i ≤ xs.length ∧ xs.drop i = sl k x y u v ∧ J i wr ∧ W.heap.size ≤ wr.heap.size
theorem drop_head {xs ys : List (Array Value)} {i : Nat} {x : Array Value} (h : xs.drop i = x :: ys) : xs[i]? = some x ∧ xs.drop (i + 1) = ys := by
  constructor
  · have := congrArg (fun l => l[0]?) h
    simpa using this
  · rw [← List.drop_drop, h]; rfl
theorem drop_nil {xs : List (Array Value)} {i : Nat} (hi : i ≤ xs.length) (h : xs.drop i = []) : i = xs.length := by
  have := List.drop_eq_nil_iff.1 h; omega

theorem igDivided_v {a b c d q1 q2 r1 r2 : Int} (w : World) (h : dvO a b c d = true) (e : qA a b c d = q1 ∧ qB a b c d = q2 ∧ rA a b c d = r1 ∧ rB a b c d = r2) : Calls Try.prog 69 #[.agg #[.int .i64 a, .int .i64 b], .agg #[.int .i64 c, .int .i64 d]] w fun e w' => e = .returned (.tuple #[.agg #[.int .i64 q1, .int .i64 q2], .agg #[.int .i64 r1, .int .i64 r2]]) ∧ Below w.heap.size w w' := by
  obtain ⟨rfl, rfl, rfl, rfl⟩ := e; exact igDivided a b c d w h

set_option maxHeartbeats 4000000 in
theorem dividing_gives (a b c d : Int) (Bz Bw : Nat) (w : World) (k1 : gok a b = true) (k2 : gok c d = true) (hz : Two w Bz a b) (hw : Two w Bw c d) :
    IterGives Try.prog 85 #[.pointer (some ⟨Bz, 0, none⟩), .pointer (some ⟨Bw, 0, none⟩)] (sl 21 a b c d) w := by
  intro l J W hW hJ hY h0
  have hn := nrm_21 k2
  obtain ⟨xs, hxs⟩ : ∃ xs, sl 21 a b c d = xs := ⟨_, rfl⟩
  rw [hxs] at hY ⊢
  have tz := Below.two (b := Bz) hW (World.block_lt_of_cell? _ _ hz.c0) hz
  have tw := Below.two (b := Bw) hW (World.block_lt_of_cell? _ _ hw.c0) hw
  have hBz : Bz < W.heap.size := World.block_lt_of_cell? _ _ tz.c0
  have hBw : Bw < W.heap.size := World.block_lt_of_cell? _ _ tw.c0
  obtain ⟨z0, z1, z2, z3⟩ := tz
  obtain ⟨y0, y1, y2, y3⟩ := tw
  clear hz hw hW
  refine callsIn_of_wp Try.func85 rfl trivial ?_ rfl
  simp only [Try.ntmps85, List.size_toArray, List.length_cons, List.length_nil, Nat.reduceAdd, Nat.reduceSub, Array.replicate_succ, Array.replicate_zero, List.push_toArray, List.append_toArray, List.nil_append, List.cons_append]
  refine wpIn_wide.2 ?_
  go_upto_region 0 with fail
  go_cut [4, 5] (fun v u wx => CutD W a b c d v u wx)
  case first =>
    go_region
    all_goals (go_wp2_with fail; go_meet)
    all_goals (refine ⟨_, _, rfl, rfl, by omega, by omega, by omega, (Two.of (t2A)), (Two.of (t2A)), blA⟩)
  case rest =>
    obtain ⟨X, Y, rfl, rfl, hXY, hX, hY', tX, tY, hbx⟩ := hcut
    have hJx : J 0 _ := hJ 0 _ _ h0 (Nat.le_refl _) hbx
    have hzx := hbx.size
    clear z0 z1 z2 z3 y0 y1 y2 y3 h0 hbx
    go_wp2_with fail
    go_loopw [] (fun wr => It W J xs X Y wr) (fun wr => ms wr Y)
    case atStart => exact ⟨0, 21, a, b, c, d, tX, tY, k1, k2, hn, Nat.zero_le _, by simpa using hxs.symm, hJx, hzx⟩
    case round =>
      clear hJx tX tY hzx hn k1 k2 hxs
      obtain ⟨i, k, x, y, u, v, ⟨x0, x1, x2, x3⟩, ⟨y0, y1, y2, y3⟩, k1, k2, hn, hil, hxs, hJr, hsr⟩ := hrel
      have hXl : X < wr.heap.size := World.block_lt_of_cell? _ _ x0
      have hYl : Y < wr.heap.size := World.block_lt_of_cell? _ _ y0
      cases hz : (u == 0 && v == 0)
      · obtain ⟨j, r, s, p, q, hk, hd, e1, e2, e3, e4, k3, hn', -, -, hlt, -⟩ := step_gc k1 k2 hz hn
        rw [step_sl hz hk e1 e2 e3 e4] at hxs
        obtain ⟨hx, hxs'⟩ := drop_head hxs
        have HI : Hid (i + 1 ≤ xs.length) := Lib.hid (by have := (List.getElem?_eq_some_iff.1 hx).1; omega)
        have Hn := Lib.hid hn'
        have Hl := Lib.hid hlt
        have Hx := Lib.hid hxs'
        have HX := Lib.hid hx
        clear hn hn' hlt hxs hxs' hx hk k1
        go_wp2_with fail
        (refine (igDivided_v _ hd ⟨e1, e2, e3, e4⟩).mono ?_; rintro e w1 ⟨rfl, hb1⟩; have hz1 := hb1.size; (repeat (first | rw [World.size_alloc] at hz1 | rw [World.size_setCell] at hz1 | rw [World.size_drew] at hz1)); have pp := T2.K hb1 (b := X) (x := _) (y := _) (t2A); obtain ⟨kk1, kk2, fkk1, fkk2⟩ := pp; have pp := T2.K hb1 (b := Y) (x := _) (y := _) (t2A); obtain ⟨kk3, kk4, fkk3, fkk4⟩ := pp)
        have HM : Hid (ms wr Y = (u * u + v * v).toNat) := Lib.hid (ms_eq y0 y1)
        clear e1 e2 e3 e4 hd x0 x1 x2 x3 y0 y1 y2 y3
        go_upto_region 3 with fail
        refine wp_name ?_
        intro w2 hb2
        (have hz2 := hb2.size; (repeat (first | rw [World.size_alloc] at hz2 | rw [World.size_setCell] at hz2 | rw [World.size_drew] at hz2)); have pp := T2.K hb2 (b := X) (x := _) (y := _) (t2A); obtain ⟨kk5, kk6, fkk5, fkk6⟩ := pp; have pp := T2.K hb2 (b := Y) (x := _) (y := _) (t2A); obtain ⟨kk7, kk8, fkk7, fkk8⟩ := pp; have pp := T2.K hb2 (b := w1.heap.size) (x := _) (y := _) (t2A); obtain ⟨kk9, kk10, fkk9, fkk10⟩ := pp; have pp := T2.K hb2 (b := w1.heap.size + 1) (x := _) (y := _) (t2A); obtain ⟨kk11, kk12, fkk11, fkk12⟩ := pp; (try clear kk1 kk2 fkk1 fkk2 kk3 kk4 fkk3 fkk4))
        have hJ2 : J i w2 := hJ i _ _ hJr hsr (blA)
        have hs2 : W.heap.size ≤ w2.heap.size := by omega
        obtain ⟨fn, tmps, assign, body, hy, hR⟩ := hY i _ w2 HX.out hJ2 hs2
        refine (wpIn_wide (n := 8)).1 ?_
        gi_wp2
        refine hR.mono ?_
        rintro e W3 ⟨rfl, hJ3, haf⟩
        have tX := haf.two (b := X) (by omega) (Two.of (t2A))
        have tY := haf.two (b := Y) (by omega) (Two.of (t2A))
        have tR := haf.two (b := w1.heap.size + 1) (by omega) (Two.of (t2A))
        have hl3 : w1.heap.size + 1 < W3.heap.size := World.block_lt_of_cell? _ _ tR.c0
        obtain ⟨x0, x1, x2, x3⟩ := tX
        obtain ⟨y0, y1, y2, y3⟩ := tY
        obtain ⟨r0, r1, -, -⟩ := tR
        clear hR hy haf
        gi_wp2
        go_wp2_with fail
        go_region
        all_goals go_wp2_with fail
        all_goals go_roundw
        case rel => exact ⟨i + 1, j, u, v, r, s, (Two.of (t2A)), (Two.of (t2A)), k2, k3, Hn.out, HI.out, Hx.out, hJ _ _ _ hJ3 (by omega) (blA), by (repeat (first | rw [World.size_alloc] | rw [World.size_setCell] | rw [World.size_drew])); omega⟩
        case measure => rw [ms_eq (c := r) (d := s) (kcA) (kcA), HM.out]; exact Hl.out
      · obtain ⟨rfl, rfl, e, -⟩ := end_gc (k := k) (x := x) (y := y) hz
        rw [end_sl] at hxs
        have hi := drop_nil hil hxs
        clear e hn
        go_wp2_with fail
        go_end0
        exact ⟨⟨_, rfl⟩, hi ▸ hJr, hsr⟩
end Go.Proofs.Ytggebkgfldmipaa

namespace Go.Proofs.Ytggebkgfldmipaa
open Go Go.RowKit Go.Shelf
attribute [local go_sem] World.cell?_alloc_some cell?_alloc2_some cell?_alloc3_some cell?_alloc4_some frozen?_alloc_some frozen?_alloc2_some frozen?_alloc3_some World.cell?_setCell_far new_ne0 new_ne1 new_ne2 new_ne3 lt2 lt3 lt4 lt5 lt6 lt7 lt8 lt9
attribute [local go_sem ↓] eqG neG
attribute [local go_sem] Oper.semAt_some

theorem sl_next {xs : List (Array Value)} {i k : Nat} {x y u v : Int} {row : Array Value} (h : xs.drop i = sl k x y u v) (hr : xs[i]? = some row) :
    ∃ j p q r s, qA x y u v = p ∧ qB x y u v = q ∧ rA x y u v = r ∧ rB x y u v = s ∧ row = #[.agg #[.int .i64 u, .int .i64 v], .agg #[.int .i64 p, .int .i64 q]] ∧ xs.drop (i + 1) = sl j u v r s ∧ ¬ (u = 0 ∧ v = 0) ∧ k = j + 1 ∧ gc k x y u v = gc j u v r s ∧
      ∀ A A' B B' C C' D D', fc k x y u v A A' B B' C C' D D' = fc j u v r s C C' D D' (A - (p * C - q * C')) (A' - (p * C' + q * C)) (B - (p * D - q * D')) (B' - (p * D' + q * D)) := by
  have hne : xs.drop i = row :: xs.drop (i + 1) := by
    obtain ⟨hl, he⟩ := List.getElem?_eq_some_iff.1 hr
    rw [List.drop_eq_getElem_cons hl, he]
  cases k with
  | zero => rw [h] at hne; simp [sl] at hne
  | succ j =>
    by_cases hz : u = 0 ∧ v = 0
    · rw [h] at hne; simp [sl, hz] at hne
    · rw [h, sl, if_neg hz] at hne
      injection hne with h1 h2
      exact ⟨j, _, _, _, _, rfl, rfl, rfl, rfl, h1.symm, h2.symm, hz, rfl, by rw [gc, if_neg hz], fun A A' B B' C C' D D' => by rw [fc, if_neg hz]⟩
theorem sl_end {xs : List (Array Value)} {k : Nat} {x y u v : Int} (h : xs.drop xs.length = sl k x y u v) : gc k x y u v = (x, y) ∧ ∀ A A' B B' C C' D D', fc k x y u v A A' B B' C C' D D' = (A, A', B, B') := by
  have hne : sl k x y u v = [] := by rw [← h]; simp
  cases k with
  | zero => exact ⟨rfl, fun _ _ _ _ _ _ _ _ => rfl⟩
  | succ j =>
    by_cases hz : u = 0 ∧ v = 0
    · exact ⟨by rw [gc, if_pos hz], fun _ _ _ _ _ _ _ _ => by rw [fc, if_pos hz]⟩
    · rw [sl, if_neg hz] at hne; simp at hne

theorem iDividing (a b c d : Int) (w : World) : Calls Try.prog 75 #[.agg #[.int .i64 a, .int .i64 b], .agg #[.int .i64 c, .int .i64 d]] w fun e w' => ∃ Bz Bw, e = .returned (.func (.func 85) #[] #[.pointer (some ⟨Bz, 0, none⟩), .pointer (some ⟨Bw, 0, none⟩)]) ∧ Two w' Bz a b ∧ Two w' Bw c d ∧ Below w.heap.size w w' := by
  go_enter Try.func75, Try.ntmps75
  go_wp2_with fail
  go_returns
  exact ⟨_, _, rfl, (Two.of (t2A)), (Two.of (t2A)), blA⟩

theorem putC {W : World} {a : Addr} {v : Value} {D : Nat} {o o' : Obj} (hK : W.heap[D]? = some o) (ho : o.isCells = false) (h : W.cell? a = some v) : (W.putObj D o').cell? a = some v :=
  cell_kept h (grownBy_putObj' _ D _) (fun r e => by cases e; exact ⟨_, hK, ho⟩)
theorem sameTwo {V W : World} {b : Nat} {x y : Int} (e : W.heap[b]? = V.heap[b]?) (t : Two V b x y) : Two W b x y :=
  ⟨(World.cell?_of_block (a := ⟨b, 0, none⟩) e).trans t.c0, (World.cell?_of_block (a := ⟨b, 1, none⟩) e).trans t.c1, (World.frozen?_of_block (a := ⟨b, 0, none⟩) e).trans t.f0, (World.frozen?_of_block (a := ⟨b, 1, none⟩) e).trans t.f1⟩
/-- Between two rounds: what was divided by last. -/
def Il (xs : List (Array Value)) (g : Int × Int) (n₀ : World) (L R : Nat) (i : Nat) (W : World) : Prop := ∃ (k : Nat) (x y u v p q : Int), Two W L x y ∧ Two W R p q ∧ xs.drop i = sl k x y u v ∧ gc k x y u v = g ∧ Below n₀.heap.size n₀ W

set_option maxHeartbeats 4000000 in
theorem iLast (a b c d : Int) (w : World) (k1 : gok a b = true) (k2 : gok c d = true) : Calls Try.prog 73 #[.agg #[.int .i64 a, .int .i64 b], .agg #[.int .i64 c, .int .i64 d]] w fun e w' => e = .returned (.agg #[.int .i64 (gA a b c d), .int .i64 (gB a b c d)]) ∧ Below w.heap.size w w' := by
  obtain ⟨g, hg⟩ : ∃ g, gc 21 a b c d = g := ⟨_, rfl⟩
  rw [gA, gB, hg]
  refine (callsIn_wide (n := 9)).1 ?_
  refine callsIn_of_wp_marks Try.func73 rfl trivial ?_ rfl
  simp only [Try.ntmps73, List.size_toArray, List.length_cons, List.length_nil, Nat.reduceAdd, Nat.reduceSub, Array.replicate_succ, Array.replicate_zero, List.push_toArray, List.append_toArray, List.nil_append, List.cons_append]
  refine wpIn_wide.2 ?_
  go_wp2_with fail
  (refine (iDividing a b c d _).mono ?_; rintro e w1 ⟨Bz, Bw, rfl, tz, tw, hb1⟩; have hz1 := hb1.size; (repeat (first | rw [World.size_alloc] at hz1 | rw [World.size_setCell] at hz1 | rw [World.size_drew] at hz1)); have pp := T2.K hb1 (b := w.heap.size) (x := _) (y := _) (t2A); obtain ⟨kk1, kk2, fkk1, fkk2⟩ := pp; have pp := T2.K hb1 (b := w.heap.size + 1) (x := _) (y := _) (t2A); obtain ⟨kk3, kk4, fkk3, fkk4⟩ := pp; have pp := T2.K hb1 (b := w.heap.size + 1 + 1) (x := _) (y := _) (t2A); obtain ⟨kk5, kk6, fkk5, fkk6⟩ := pp; have pp := T2.K hb1 (b := w.heap.size + 1 + 1 + 1) (x := _) (y := _) (t2A); obtain ⟨kk7, kk8, fkk7, fkk8⟩ := pp)
  go_wp2_with fail
  refine (wpIn_wide (n := 9)).1 ?_
  refine wp_rangeOwn (xs := sl 21 a b c d) rfl (enters_of Try.func85 (by kernel_rfl) rfl) (dividing_gives a b c d Bz Bw w1 k1 k2 tz tw) (Below.refl _ _) (fun x hx => sl_two 21 a b c d x hx)
    (Il (sl 21 a b c d) g w (w.heap.size + 1 + 1 + 1) (w.heap.size + 1 + 1)) ?hI ?h0 ?round ?done
  case hI =>
    rintro i V W ⟨k, x, y, u, v, p, q, tL, tR, hd, hgc, hb⟩ hs hVW
    exact ⟨k, x, y, u, v, p, q, Below.two hVW (by omega) tL, Below.two hVW (by omega) tR, hd, hgc, hb.trans (hVW.mono (by omega))⟩
  case h0 => exact ⟨21, a, b, c, d, 0, 0, (Two.of (t2A)), (Two.of (t2A)), by simp, hg, blA⟩
  case round =>
    rintro l i row W hr ⟨k, x, y, u, v, p, q, ⟨l0, l1, l2, l3⟩, ⟨r0, r1, r2, r3⟩, hd, hgc, hb⟩ hs
    obtain ⟨j, p1, q1, r, s, -, -, -, -, rfl, hd', -, -, hgc', -⟩ := sl_next hd hr
    rw [hgc'] at hgc
    have HG := Lib.hid hgc
    have HD := Lib.hid hd'
    clear hgc hd hd' hgc' hr
    gi_wp2
    refine ⟨(After.refl _ _).alloc _, ?_⟩
    intro W2 hs2 hb2 hn2
    have tL := Below.two (b := w.heap.size + 1 + 1 + 1) hb2 (by omega) (Two.of (t2A))
    have tR := Below.two (b := w.heap.size + 1 + 1) hb2 (by omega) (Two.of (t2A))
    have tV := sameTwo (hn2 W.heap.size (Nat.le_refl _)) (x := u) (y := v) (Two.of (t2A))
    clear l0 l1 l2 l3 r0 r1 r2 r3 hn2
    have hb3 : Below w.heap.size w W2 := (hb.alloc (by omega) _).trans (hb2.mono (by omega))
    obtain ⟨l0, l1, l2, l3⟩ := tL
    obtain ⟨r0, r1, r2, r3⟩ := tR
    obtain ⟨v0, v1, -, -⟩ := tV
    have hs3 : w1.heap.size + 1 ≤ W2.heap.size := by rw [hs2, World.size_alloc]; omega
    gi_wp2
    exact ⟨⟨j, u, v, r, s, p, q, (Two.of (t2A)), (Two.of (t2A)), HD.out, HG.out, blA⟩, ((After.refl _ _).setCell (by dsimp only; omega) _).setCell (by dsimp only; omega) _⟩
  case done =>
    rintro D W hD ⟨k, x, y, u, v, p, q, ⟨l0, l1, l2, l3⟩, ⟨r0, r1, r2, r3⟩, hd, hgc, hb⟩ hK
    rw [(sl_end hd).1] at hgc
    subst hgc
    have HK := Lib.hid hK
    clear hK
    go_wp2_with fail
    have hK' := ((KeepsOthers.setCell W ⟨w.heap.size + 1 + 1, 0, none⟩ (.int .i64 x)).trans (KeepsOthers.setCell _ ⟨w.heap.size + 1 + 1, 1, none⟩ (.int .i64 y))).same D _ HK.out rfl
    have c0 := putC (o' := .deferred none) hK' rfl (a := ⟨w.heap.size + 1 + 1, 0, none⟩) (v := .int .i64 x) (kcA)
    have c1 := putC (o' := .deferred none) hK' rfl (a := ⟨w.heap.size + 1 + 1, 1, none⟩) (v := .int .i64 y) (kcA)
    refine ⟨by simp, .inl ⟨_, _, rfl, run_takeDeferred hK', ?_⟩⟩
    refine ⟨.agg #[.int .i64 x, .int .i64 y], by simp [results, Try.results73, go_sem, c0, c1], rfl, Below.trans ?_ (below_put _ (by omega) _)⟩
    exact blA
end Go.Proofs.Ytggebkgfldmipaa
