import Derived.Test.YtggebkgfldmipaaNa
import Derived.Test.YtggebkgfldmipaaOe
import Derived.Test.YtggebkgfldmipaaOk
import Derived.Test.YtggebkgfldmipaaPb
import Derived.Test.YtggebkgfldmipaaOs
import Derived.Deep.RegionHeld3
import Derived.Deep.DeepCutAuto
import Derived.BigRegion
namespace Go.Proofs.Ytggebkgfldmipaa
open Go Go.RowKit
attribute [local go_sem] World.cell?_alloc_some cell?_alloc2_some cell?_alloc3_some cell?_alloc4_some frozen?_alloc_some frozen?_alloc2_some frozen?_alloc3_some World.cell?_setCell_far new_ne0 new_ne1 new_ne2 new_ne3 lt2 lt3 lt4 lt5 lt6 lt7 lt8 lt9
attribute [local go_sem ↓] eqG neG

theorem md_parts {e f : Int} (h : mdO e f = true) : -10 ≤ e ∧ e ≤ 10 ∧ -10 ≤ f ∧ f ≤ 10 := mod_bd (m := (e, f)) (md_nG h).2
/-- Numbers that a product of a factor and a modulus may be. -/
def Bw (n : Int) : Prop := -10000000000000 ≤ n ∧ n ≤ 10000000000000
theorem slTimes_b {a b c d x y : Int} (w : World) (ha1 : -300000000000000 ≤ a) (ha2 : a ≤ 300000000000000) (hb1 : -300000000000000 ≤ b) (hb2 : b ≤ 300000000000000) (hc1 : -1000 ≤ c) (hc2 : c ≤ 1000) (hd1 : -1000 ≤ d) (hd2 : d ≤ 1000) (hx : a * c - b * d = x) (hy : a * d + b * c = y) :
    Calls Try.prog 38 #[.agg #[.int .i64 a, .int .i64 b], .agg #[.int .i64 c, .int .i64 d]] w fun e w' => e = .returned (.agg #[.int .i64 x, .int .i64 y]) ∧ Below w.heap.size w w' := by
  subst hx hy
  have m1 := mul_bdx ha1 ha2 hc1 hc2
  have m2 := mul_bdx hb1 hb2 hd1 hd2
  have m3 := mul_bdx ha1 ha2 hd1 hd2
  have m4 := mul_bdx hb1 hb2 hc1 hc2
  refine (slTimes a b c d w).mono ?_
  rintro e w' ⟨rfl, hb⟩
  refine ⟨?_, hb⟩
  rw [IntWalk.wrap64_in (a * c) (by omega), IntWalk.wrap64_in (b * d) (by omega), IntWalk.wrap64_in (a * d) (by omega), IntWalk.wrap64_in (b * c) (by omega), IntWalk.wrap64_in _ (by omega), IntWalk.wrap64_in _ (by omega)]
theorem l3Near_b {n m x : Int} (w : World) (h1 : -200000000000000 ≤ n) (h2 : n ≤ 200000000000000) (h3 : 0 < m) (h4 : m ≤ 100) (h : nr n m = x) : Calls Try.prog 70 #[.int .i64 n, .int .i64 m] w fun e w' => e = .returned (.int .i64 x) ∧ Below w.heap.size w w' := by
  subst h
  obtain ⟨b1, b2⟩ := nr_le (k := 200000000000000) h3 h1 h2
  have hz : (2 * m == 0) = false := by simp; omega
  rcases tdiv_nr (n := n) h3 with ⟨ht, he⟩ | ⟨ht, he⟩
  · have hd : decide ((2 * n + m).tmod (2 * m) < 0) = true := decide_eq_true ht
    have hw1 : IntKind.i64.wrap (nr n m + 1) = nr n m + 1 := IntWalk.i64_in _ (by omega)
    have hw2 : IntKind.i64.wrap (nr n m) = nr n m := IntWalk.i64_in _ (by omega)
    clear ht
    go_enter Try.func70, Try.ntmps70
    go_wp2_with fail
    go_returns
    exact ⟨by simp, blA⟩
  · have hd : decide ((2 * n + m).tmod (2 * m) < 0) = false := decide_eq_false ht
    have hw2 : IntKind.i64.wrap (nr n m) = nr n m := IntWalk.i64_in _ (by omega)
    clear ht
    go_enter Try.func70, Try.ntmps70
    go_wp2_with fail
    go_returns
    exact ⟨rfl, blA⟩
set_option maxHeartbeats 4000000 in
/-- A great number's rest by a modulus. -/
theorem l3Divided_b {a b c d r1 r2 : Int} (w : World) (ha : Bw a) (hb : Bw b) (hm : mdO c d = true) (hr1 : rA a b c d = r1) (hr2 : rB a b c d = r2) :
    Calls Try.prog 51 #[.agg #[.int .i64 a, .int .i64 b], .agg #[.int .i64 c, .int .i64 d]] w fun e w' => ∃ x y, e = .returned (.tuple #[.agg #[.int .i64 x, .int .i64 y], .agg #[.int .i64 r1, .int .i64 r2]]) ∧ Below w.heap.size w w' := by
  obtain ⟨hN, hN2⟩ := md_nG hm
  change 0 < c * c + d * d at hN
  change c * c + d * d ≤ 100 at hN2
  have k2 := (md_is hm).1
  obtain ⟨c1, c2, d1, d2⟩ := md_parts hm
  obtain ⟨a1, a2⟩ := ha
  obtain ⟨b1, b2⟩ := hb
  have m1 := mul_bdx a1 a2 c1 c2
  have m2 := mul_bdx b1 b2 d1 d2
  have m3 := mul_bdx a1 a2 d1 d2
  have m4 := mul_bdx b1 b2 c1 c2
  obtain ⟨N, eN⟩ : ∃ N, c * c + d * d = N := ⟨_, rfl⟩
  obtain ⟨p1, e1⟩ : ∃ p1, a * c - b * -d = p1 := ⟨_, rfl⟩
  obtain ⟨p2, e2⟩ : ∃ p2, a * -d + b * c = p2 := ⟨_, rfl⟩
  have e1' : a * c + b * d = p1 := by rw [← e1]; grind
  have e2' : b * c - a * d = p2 := by rw [← e2]; grind
  rw [eN] at hN hN2
  have i11 : -200000000000000 ≤ p1 := by omega
  have i12 : p1 ≤ 200000000000000 := by omega
  have i21 : -200000000000000 ≤ p2 := by omega
  have i22 : p2 ≤ 200000000000000 := by omega
  obtain ⟨j11, j12⟩ := nr_le (n := p1) (k := 200000000000000) hN i11 i12
  obtain ⟨j21, j22⟩ := nr_le (n := p2) (k := 200000000000000) hN i21 i22
  obtain ⟨x, f1⟩ : ∃ x, nr p1 N = x := ⟨_, rfl⟩
  obtain ⟨y, f2⟩ : ∃ y, nr p2 N = y := ⟨_, rfl⟩
  rw [f1] at j11 j12
  rw [f2] at j21 j22
  have q1 : qA a b c d = x := by unfold qA; rw [e1', eN, f1]
  have q2 : qB a b c d = y := by unfold qB; rw [e2', eN, f2]
  obtain ⟨u, g1⟩ : ∃ u, x * c - y * d = u := ⟨_, rfl⟩
  obtain ⟨v, g2⟩ : ∃ v, x * d + y * c = v := ⟨_, rfl⟩
  have s1 := mul_bdx j11 j12 c1 c2
  have s2 := mul_bdx j21 j22 d1 d2
  have s3 := mul_bdx j11 j12 d1 d2
  have s4 := mul_bdx j21 j22 c1 c2
  have hr1' : a - u = r1 := by rw [← hr1]; unfold rA; rw [q1, q2, g1]
  have hr2' : b - v = r2 := by rw [← hr2]; unfold rB; rw [q1, q2, g2]
  have hw1 : IntKind.i64.wrap (a - u) = a - u := IntWalk.i64_in _ (by omega)
  have hw2 : IntKind.i64.wrap (b - v) = b - v := IntWalk.i64_in _ (by omega)
  clear m1 m2 m3 m4 s1 s2 s3 s4 q1 q2 e1' e2' hr1 hr2
  subst hr1' hr2'
  go_enter Try.func51, Try.ntmps51
  go_wp2_with fail
  (refine (slTimes_b _ (by omega) (by omega) (by omega) (by omega) (by omega) (by omega) (by omega) (by omega) e1 e2).mono ?_; rintro e w1 ⟨rfl, hb1⟩; have hz1 := hb1.size; (repeat (first | rw [World.size_alloc] at hz1 | rw [World.size_setCell] at hz1 | rw [World.size_drew] at hz1)); have pp := C2.K hb1 (b := w.heap.size) (x := _) (y := _) (c2A); obtain ⟨kk1, kk2⟩ := pp; have pp := C2.K hb1 (b := w.heap.size + 1) (x := _) (y := _) (c2A); obtain ⟨kk3, kk4⟩ := pp; have pp := T2.K hb1 (b := w.heap.size + 1 + 1) (x := _) (y := _) (t2A); obtain ⟨kk5, kk6, fkk5, fkk6⟩ := pp; have pp := T2.K hb1 (b := w.heap.size + 1 + 1 + 1) (x := _) (y := _) (t2A); obtain ⟨kk7, kk8, fkk7, fkk8⟩ := pp)
  go_wp2_with fail
  (refine (slNorm_v _ k2 eN).mono ?_; rintro e w2 ⟨rfl, hb2⟩; have hz2 := hb2.size; (repeat (first | rw [World.size_alloc] at hz2 | rw [World.size_setCell] at hz2 | rw [World.size_drew] at hz2)); have pp := C2.K hb2 (b := w.heap.size) (x := _) (y := _) (c2A); obtain ⟨kk9, kk10⟩ := pp; have pp := C2.K hb2 (b := w.heap.size + 1) (x := _) (y := _) (c2A); obtain ⟨kk11, kk12⟩ := pp; have pp := T2.K hb2 (b := w.heap.size + 1 + 1) (x := _) (y := _) (t2A); obtain ⟨kk13, kk14, fkk13, fkk14⟩ := pp; have pp := T2.K hb2 (b := w.heap.size + 1 + 1 + 1) (x := _) (y := _) (t2A); obtain ⟨kk15, kk16, fkk15, fkk16⟩ := pp; have pp := C2.K hb2 (b := w1.heap.size) (x := _) (y := _) (c2A); obtain ⟨kk17, kk18⟩ := pp; (try clear kk1 kk2 kk3 kk4 kk5 kk6 fkk5 fkk6 kk7 kk8 fkk7 fkk8))
  go_upto_region 3 with fail
  go_cut [8] (fun v8 wx => CutX w2 x y v8 wx)
  case first =>
    (go_region_held3 (fun w' => w'.cell? ⟨w1.heap.size, 0, none⟩ = some (.int .i64 (p1)) ∧ w'.cell? ⟨w1.heap.size, 1, none⟩ = some (.int .i64 (p2))) (first | (go_keep; done) | ((try dsimp only); refine ⟨?_, ?_⟩ <;> exact kcA)) (first | (go_at_call 70; obtain ⟨q0, q1⟩ := ‹_ ∧ _›; refine (l3Near_b _ (by omega) (by omega) hN (by omega) (by first | exact f1 | exact f2)).mono ?_; rintro e w3 ⟨rfl, hb3⟩; have hz3 := hb3.size; (repeat (first | rw [World.size_alloc] at hz3 | rw [World.size_setCell] at hz3 | rw [World.size_drew] at hz3)); have kk19 := keep hb3 q0; have kk20 := keep hb3 q1; obtain ⟨hc3, hf3⟩ := bcell hb3; clear q0 q1)); (try clear kk9 kk10 kk11 kk12 kk13 kk14 fkk13 fkk14 kk15 kk16 fkk15 fkk16 kk17 kk18))
    all_goals (go_wp2_with fail; go_meet; exact ⟨_, rfl, by ((try simp only [World.size_alloc, World.size_setCell, World.size_drew]); omega), kcA, kcA, blA⟩)
  case rest =>
    obtain ⟨X, rfl, mX, m0, m1, hbx⟩ := hcut
    (have hzx := hbx.size; (repeat (first | rw [World.size_alloc] at hzx | rw [World.size_setCell] at hzx | rw [World.size_drew] at hzx)); have pp := C2.K hbx (b := w.heap.size) (x := _) (y := _) (c2A); obtain ⟨kk21, kk22⟩ := pp; have pp := C2.K hbx (b := w.heap.size + 1) (x := _) (y := _) (c2A); obtain ⟨kk23, kk24⟩ := pp; have pp := T2.K hbx (b := w.heap.size + 1 + 1) (x := _) (y := _) (t2A); obtain ⟨kk25, kk26, fkk25, fkk26⟩ := pp; have pp := T2.K hbx (b := w.heap.size + 1 + 1 + 1) (x := _) (y := _) (t2A); obtain ⟨kk27, kk28, fkk27, fkk28⟩ := pp; (try clear kk19 kk20))
    go_wp2_with fail
    (refine (slTimes_b _ (by omega) (by omega) (by omega) (by omega) (by omega) (by omega) (by omega) (by omega) g1 g2).mono ?_; rintro e w4 ⟨rfl, hb4⟩; have hz4 := hb4.size; (repeat (first | rw [World.size_alloc] at hz4 | rw [World.size_setCell] at hz4 | rw [World.size_drew] at hz4)); have pp := C2.K hb4 (b := w.heap.size) (x := _) (y := _) (c2A); obtain ⟨kk29, kk30⟩ := pp; have pp := T2.K hb4 (b := w.heap.size + 1 + 1) (x := _) (y := _) (t2A); obtain ⟨kk31, kk32, fkk31, fkk32⟩ := pp; have pp := T2.K hb4 (b := w.heap.size + 1 + 1 + 1) (x := _) (y := _) (t2A); obtain ⟨kk33, kk34, fkk33, fkk34⟩ := pp; have pp := C2.K hb4 (b := X) (x := _) (y := _) (c2A); obtain ⟨kk35, kk36⟩ := pp; (try clear kk21 kk22 kk23 kk24 kk25 kk26 fkk25 fkk26 kk27 kk28 fkk27 fkk28))
    go_wp2_with fail
    go_region
    all_goals go_wp2_with fail
    all_goals refine bodyPost_ret (v := .tuple #[.agg #[.int .i64 x, .int .i64 y], .agg #[.int .i64 (a - u), .int .i64 (b - v)]]) (by simp [results, Try.results51, go_sem, *]) rfl ?_; exact ⟨x, y, rfl, blA⟩
end Go.Proofs.Ytggebkgfldmipaa
