import Derived.Test.YtggebkgfldmipaaNb
import Derived.Test.YtggebkgfldmipaaOp
import Derived.Test.YtggebkgfldmipaaOs
namespace Go.Proofs.Ytggebkgfldmipaa
open Go Go.RowKit
attribute [local go_sem] World.cell?_alloc_some cell?_alloc2_some cell?_alloc3_some cell?_alloc4_some frozen?_alloc_some frozen?_alloc2_some frozen?_alloc3_some World.cell?_setCell_far new_ne0 new_ne1 new_ne2 new_ne3 lt2 lt3 lt4 lt5 lt6 lt7 lt8 lt9
attribute [local go_sem ↓] eqG neG
attribute [local go_sem] cell?_alloc_lt frozen?_alloc_lt lt10

theorem Bw_of {n : Int} (h1 : -10000000000000 ≤ n) (h2 : n ≤ 10000000000000) : Bw n := ⟨h1, h2⟩
set_option maxHeartbeats 4000000 in
theorem sPairOk_v {e f g h : Int} {o : Bool} (w : World) (k : paO e f g h = o) : Calls Try.prog 13 #[.agg #[.int .i64 e, .int .i64 f], .agg #[.int .i64 g, .int .i64 h]] w fun e' w' => e' = .returned (.bool o) ∧ Below w.heap.size w w' := by
  unfold paO at k
  go_enter Try.func13, Try.ntmps13
  go_wp2_with fail
  cases m1 : mdO e f
  · rw [m1] at k
    subst k
    (refine (sModulusOk_v _ m1).mono ?_; rintro e w1 ⟨rfl, hb1⟩; have hz1 := hb1.size; (repeat (first | rw [World.size_alloc] at hz1 | rw [World.size_setCell] at hz1 | rw [World.size_drew] at hz1)))
    go_wp2_with fail
    go_returns
    exact ⟨rfl, blA⟩
  (refine (sModulusOk_v _ m1).mono ?_; rintro e w1 ⟨rfl, hb1⟩; have hz1 := hb1.size; (repeat (first | rw [World.size_alloc] at hz1 | rw [World.size_setCell] at hz1 | rw [World.size_drew] at hz1)); have pp := C2.K hb1 (b := w.heap.size) (x := _) (y := _) (c2A); obtain ⟨kk1, kk2⟩ := pp; have pp := C2.K hb1 (b := w.heap.size + 1) (x := _) (y := _) (c2A); obtain ⟨kk3, kk4⟩ := pp)
  go_wp2_with fail
  cases m2 : mdO g h
  · rw [m1, m2] at k
    subst k
    (refine (sModulusOk_v _ m2).mono ?_; rintro e w2 ⟨rfl, hb2⟩; have hz2 := hb2.size; (repeat (first | rw [World.size_alloc] at hz2 | rw [World.size_setCell] at hz2 | rw [World.size_drew] at hz2)); (try clear kk1 kk2 kk3 kk4))
    go_wp2_with fail
    go_returns
    exact ⟨rfl, blA⟩
  (refine (sModulusOk_v _ m2).mono ?_; rintro e w2 ⟨rfl, hb2⟩; have hz2 := hb2.size; (repeat (first | rw [World.size_alloc] at hz2 | rw [World.size_setCell] at hz2 | rw [World.size_drew] at hz2)); have pp := C2.K hb2 (b := w.heap.size) (x := _) (y := _) (c2A); obtain ⟨kk5, kk6⟩ := pp; have pp := C2.K hb2 (b := w.heap.size + 1) (x := _) (y := _) (c2A); obtain ⟨kk7, kk8⟩ := pp)
  go_wp2_with fail
  cases m3 : apO e f g h
  · rw [m1, m2, m3] at k
    subst k
    (refine (sApartOk_v _ m3).mono ?_; rintro e w3 ⟨rfl, hb3⟩; have hz3 := hb3.size; (repeat (first | rw [World.size_alloc] at hz3 | rw [World.size_setCell] at hz3 | rw [World.size_drew] at hz3)); (try clear kk5 kk6 kk7 kk8))
    go_wp2_with fail
    go_returns
    exact ⟨rfl, blA⟩
  (refine (sApartOk_v _ m3).mono ?_; rintro e w3 ⟨rfl, hb3⟩; have hz3 := hb3.size; (repeat (first | rw [World.size_alloc] at hz3 | rw [World.size_setCell] at hz3 | rw [World.size_drew] at hz3)); have pp := C2.K hb3 (b := w.heap.size) (x := _) (y := _) (c2A); obtain ⟨kk9, kk10⟩ := pp; have pp := C2.K hb3 (b := w.heap.size + 1) (x := _) (y := _) (c2A); obtain ⟨kk11, kk12⟩ := pp)
  rw [m1, m2, m3, Bool.true_and, Bool.true_and, Bool.true_and] at k
  obtain ⟨c1, c2, c3, c4⟩ := mod_bd (md_nG m1).2
  obtain ⟨d1, d2, d3, d4⟩ := mod_bd (md_nG m2).2
  dsimp only at c1 c2 c3 c4 d1 d2 d3 d4
  go_wp2_with fail
  (refine (slTimes_b _ (by omega) (by omega) (by omega) (by omega) (by omega) (by omega) (by omega) (by omega) rfl rfl).mono ?_; rintro e w4 ⟨rfl, hb4⟩; have hz4 := hb4.size; (repeat (first | rw [World.size_alloc] at hz4 | rw [World.size_setCell] at hz4 | rw [World.size_drew] at hz4)); (try clear kk9 kk10 kk11 kk12))
  go_wp2_with fail
  (refine (sModulusOk_v _ k).mono ?_; rintro e w5 ⟨rfl, hb5⟩; have hz5 := hb5.size; (repeat (first | rw [World.size_alloc] at hz5 | rw [World.size_setCell] at hz5 | rw [World.size_drew] at hz5)))
  go_wp2_with fail
  go_returns
  exact ⟨rfl, blA⟩
/-- What the way of the reference gives, number by number. -/
structure SW (a b c d e f g h X Y A B C D x y p q r s P1 P2 Q1 Q2 R1 R2 T1 V0 U1 U2 V1 V2 S1 S2 : Int) : Prop where
  hd : mdO X Y = true
  bA : Bd A
  bB : Bd B
  bC : Bd C
  bD : Bd D
  n1 : -10 ≤ e ∧ e ≤ 10 ∧ -10 ≤ f ∧ f ≤ 10
  n2 : -10 ≤ g ∧ g ≤ 10 ∧ -10 ≤ h ∧ h ≤ 10
  n3 : -10 ≤ p ∧ p ≤ 10 ∧ -10 ≤ q ∧ q ≤ 10
  n4 : -10 ≤ r ∧ r ≤ 10 ∧ -10 ≤ s ∧ s ≤ 10
  n5 : -10 ≤ P1 ∧ P1 ≤ 10 ∧ -10 ≤ P2 ∧ P2 ≤ 10
  n6 : -10 ≤ Q1 ∧ Q1 ≤ 10 ∧ -10 ≤ Q2 ∧ Q2 ≤ 10
  n7 : -1000 ≤ a ∧ a ≤ 1000 ∧ -1000 ≤ b ∧ b ≤ 1000
  n8 : -1000 ≤ c ∧ c ≤ 1000 ∧ -1000 ≤ d ∧ d ≤ 1000
  t1 : C * g - D * h = R1
  t2 : C * h + D * g = R2
  t3 : A * e - B * f = T1
  t4 : A * f + B * e = V0
  t5 : p * a - q * b = U1
  t6 : p * b + q * a = U2
  t7 : r * c - s * d = V1
  t8 : r * d + s * c = V2
  t9 : P1 + Q1 = S1
  t10 : P2 + Q2 = S2
  w1 : Bw R1 ∧ Bw R2 ∧ Bw T1 ∧ Bw V0 ∧ Bw U1 ∧ Bw U2 ∧ Bw V1 ∧ Bw V2 ∧ Bw S1 ∧ Bw S2
  r1 : rA R1 R2 X Y = p
  r2 : rB R1 R2 X Y = q
  r3 : rA T1 V0 X Y = r
  r4 : rB T1 V0 X Y = s
  r5 : rA U1 U2 X Y = P1
  r6 : rB U1 U2 X Y = P2
  r7 : rA V1 V2 X Y = Q1
  r8 : rB V1 V2 X Y = Q2
  r9 : rA S1 S2 X Y = x
  r10 : rB S1 S2 X Y = y
theorem sw_is {a b c d e f g h x y : Int} (k1 : gok a b = true) (k2 : gok c d = true) (k3 : paO e f g h = true) (hj : Join (e, f) (g, h) (a, b) (c, d) (x, y)) :
    ∃ A B C D p q r s P1 P2 Q1 Q2 R1 R2 T1 V0 U1 U2 V1 V2 S1 S2, (coO e f g h = true ∧ ffA e f g h = A ∧ ffB e f g h = B ∧ ffC e f g h = C ∧ ffD e f g h = D) ∧ SW a b c d e f g h (e * g - f * h) (e * h + f * g) A B C D x y p q r s P1 P2 Q1 Q2 R1 R2 T1 V0 U1 U2 V1 V2 S1 S2 := by
  obtain ⟨hc, bA, bB, bC, bD, hs⟩ := pa_sum k3
  obtain ⟨m1, m2, -, hd⟩ := pa_is k3
  obtain ⟨g3, g4⟩ := md_nG hd
  have hw := jo_way k3 hs hj
  have n1 := mod_bd (md_nG m1).2
  have n2 := mod_bd (md_nG m2).2
  dsimp only at n1 n2
  have n7 : -1000 ≤ a ∧ a ≤ 1000 ∧ -1000 ≤ b ∧ b ≤ 1000 := by
    simp only [gok, pok, Bool.and_eq_true, decide_eq_true_eq] at k1; omega
  have n8 : -1000 ≤ c ∧ c ≤ 1000 ∧ -1000 ≤ d ∧ d ≤ 1000 := by
    simp only [gok, pok, Bool.and_eq_true, decide_eq_true_eq] at k2; omega
  generalize ffA e f g h = A at *
  generalize ffB e f g h = B at *
  generalize ffC e f g h = C at *
  generalize ffD e f g h = D at *
  have bds : ∀ z : Int × Int, ∃ u v, rs (e * g - f * h, e * h + f * g) z = (u, v) ∧ -10 ≤ u ∧ u ≤ 10 ∧ -10 ≤ v ∧ v ≤ 10 := by
    intro z
    obtain ⟨u, v, huv⟩ : ∃ u v, rs (e * g - f * h, e * h + f * g) z = (u, v) := ⟨_, _, rfl⟩
    have := own_bd g3 g4 (rs_idem g3 z)
    rw [huv] at this
    dsimp only at this
    exact ⟨u, v, huv, by omega, by omega, by omega, by omega⟩
  obtain ⟨p, q, h1, n3⟩ := bds (mu (C, D) (g, h))
  obtain ⟨r, s, h2, n4⟩ := bds (mu (A, B) (e, f))
  obtain ⟨P1, P2, h3, n5⟩ := bds (mu (p, q) (a, b))
  obtain ⟨Q1, Q2, h4, n6⟩ := bds (mu (r, s) (c, d))
  rw [h1, h2, h3, h4] at hw
  have x1 := mul_bdx bC.1 bC.2 n2.1 n2.2.1
  have x2 := mul_bdx bD.1 bD.2 n2.2.2.1 n2.2.2.2
  have x3 := mul_bdx bC.1 bC.2 n2.2.2.1 n2.2.2.2
  have x4 := mul_bdx bD.1 bD.2 n2.1 n2.2.1
  have x5 := mul_bdx bA.1 bA.2 n1.1 n1.2.1
  have x6 := mul_bdx bB.1 bB.2 n1.2.2.1 n1.2.2.2
  have x7 := mul_bdx bA.1 bA.2 n1.2.2.1 n1.2.2.2
  have x8 := mul_bdx bB.1 bB.2 n1.1 n1.2.1
  have y1 := mul_bdx n3.1 n3.2.1 n7.1 n7.2.1
  have y2 := mul_bdx n3.2.2.1 n3.2.2.2 n7.2.2.1 n7.2.2.2
  have y3 := mul_bdx n3.1 n3.2.1 n7.2.2.1 n7.2.2.2
  have y4 := mul_bdx n3.2.2.1 n3.2.2.2 n7.1 n7.2.1
  have y5 := mul_bdx n4.1 n4.2.1 n8.1 n8.2.1
  have y6 := mul_bdx n4.2.2.1 n4.2.2.2 n8.2.2.1 n8.2.2.2
  have y7 := mul_bdx n4.1 n4.2.1 n8.2.2.1 n8.2.2.2
  have y8 := mul_bdx n4.2.2.1 n4.2.2.2 n8.1 n8.2.1
  refine ⟨A, B, C, D, p, q, r, s, P1, P2, Q1, Q2, _, _, _, _, _, _, _, _, _, _, ⟨hc, rfl, rfl, rfl, rfl⟩, hd, bA, bB, bC, bD, n1, n2, n3, n4, n5, n6, n7, n8, rfl, rfl, rfl, rfl, rfl, rfl, rfl, rfl, rfl, rfl,
    ⟨Bw_of (by omega) (by omega), Bw_of (by omega) (by omega), Bw_of (by omega) (by omega), Bw_of (by omega) (by omega), Bw_of (by omega) (by omega), Bw_of (by omega) (by omega), Bw_of (by omega) (by omega), Bw_of (by omega) (by omega), Bw_of (by omega) (by omega), Bw_of (by omega) (by omega)⟩,
    congrArg Prod.fst h1, congrArg Prod.snd h1, congrArg Prod.fst h2, congrArg Prod.snd h2, congrArg Prod.fst h3, congrArg Prod.snd h3, congrArg Prod.fst h4, congrArg Prod.snd h4, congrArg Prod.fst hw, congrArg Prod.snd hw⟩
set_option maxHeartbeats 16000000 in
theorem sl9Join_v {a b c d e f g h X Y A B C D x y p q r s P1 P2 Q1 Q2 R1 R2 T1 V0 U1 U2 V1 V2 S1 S2 : Int} (w : World) (hc : coO e f g h = true ∧ ffA e f g h = A ∧ ffB e f g h = B ∧ ffC e f g h = C ∧ ffD e f g h = D) (hX : e * g - f * h = X) (hY : e * h + f * g = Y) (H : SW a b c d e f g h X Y A B C D x y p q r s P1 P2 Q1 Q2 R1 R2 T1 V0 U1 U2 V1 V2 S1 S2) : Calls Try.prog 45 #[.agg #[.int .i64 a, .int .i64 b], .agg #[.int .i64 c, .int .i64 d], .agg #[.int .i64 e, .int .i64 f], .agg #[.int .i64 g, .int .i64 h]] w fun e' w' => e' = .returned (.agg #[.int .i64 x, .int .i64 y]) ∧ Below w.heap.size w w' := by
  obtain ⟨hd, bA, bB, bC, bD, ⟨n11, n12, n13, n14⟩, ⟨n21, n22, n23, n24⟩, ⟨n31, n32, n33, n34⟩, ⟨n41, n42, n43, n44⟩, ⟨n51, n52, n53, n54⟩, ⟨n61, n62, n63, n64⟩, ⟨n71, n72, n73, n74⟩, ⟨n81, n82, n83, n84⟩, t1, t2, t3, t4, t5, t6, t7, t8, t9, t10, ⟨z1, z2, z3, z4, z5, z6, z7, z8, z9, z10⟩, r1, r2, r3, r4, r5, r6, r7, r8, r9, r10⟩ := H
  have s1 : IntKind.i64.wrap (P1 + Q1) = S1 := by rw [IntWalk.i64_in _ (by omega)]; exact t9
  have s2 : IntKind.i64.wrap (P2 + Q2) = S2 := by rw [IntWalk.i64_in _ (by omega)]; exact t10
  clear t9 t10
  obtain ⟨A1, A2⟩ := bA
  obtain ⟨B1, B2⟩ := bB
  obtain ⟨C1, C3⟩ := bC
  obtain ⟨D1, D2⟩ := bD
  go_enter Try.func45, Try.ntmps45
  go_wp2_with fail
  (refine (sFactorsFor_v _ hc).mono ?_; rintro e w1 ⟨rfl, hb1⟩; have hz1 := hb1.size; (repeat (first | rw [World.size_alloc] at hz1 | rw [World.size_setCell] at hz1 | rw [World.size_drew] at hz1)); have pp := C2.K hb1 (b := w.heap.size) (x := _) (y := _) (c2A); obtain ⟨kk1, kk2⟩ := pp; have pp := C2.K hb1 (b := w.heap.size + 1) (x := _) (y := _) (c2A); obtain ⟨kk3, kk4⟩ := pp; have pp := C2.K hb1 (b := w.heap.size + 1 + 1) (x := _) (y := _) (c2A); obtain ⟨kk5, kk6⟩ := pp; have pp := C2.K hb1 (b := w.heap.size + 1 + 1 + 1) (x := _) (y := _) (c2A); obtain ⟨kk7, kk8⟩ := pp; have pp := T2.K hb1 (b := w.heap.size + 1 + 1 + 1 + 1) (x := _) (y := _) (t2A); obtain ⟨kk9, kk10, fkk9, fkk10⟩ := pp)
  clear hc
  go_wp2_with fail
  (refine (slTimes_b _ (by omega) (by omega) (by omega) (by omega) (by omega) (by omega) (by omega) (by omega) hX hY).mono ?_; rintro e w2 ⟨rfl, hb2⟩; have hz2 := hb2.size; (repeat (first | rw [World.size_alloc] at hz2 | rw [World.size_setCell] at hz2 | rw [World.size_drew] at hz2)); have pp := C2.K hb2 (b := w.heap.size) (x := _) (y := _) (c2A); obtain ⟨kk11, kk12⟩ := pp; have pp := C2.K hb2 (b := w.heap.size + 1) (x := _) (y := _) (c2A); obtain ⟨kk13, kk14⟩ := pp; have pp := C2.K hb2 (b := w.heap.size + 1 + 1) (x := _) (y := _) (c2A); obtain ⟨kk15, kk16⟩ := pp; have pp := C2.K hb2 (b := w.heap.size + 1 + 1 + 1) (x := _) (y := _) (c2A); obtain ⟨kk17, kk18⟩ := pp; have pp := T2.K hb2 (b := w.heap.size + 1 + 1 + 1 + 1) (x := _) (y := _) (t2A); obtain ⟨kk19, kk20, fkk19, fkk20⟩ := pp; have pp := C2.K hb2 (b := w1.heap.size) (x := _) (y := _) (c2A); obtain ⟨kk21, kk22⟩ := pp; have pp := C2.K hb2 (b := w1.heap.size + 1) (x := _) (y := _) (c2A); obtain ⟨kk23, kk24⟩ := pp; (try clear kk1 kk2 kk3 kk4 kk5 kk6 kk7 kk8 kk9 kk10 fkk9 fkk10))
  clear hX hY
  go_upto_region 3 with fail
  refine wp_name ?_
  intro w3 hb3
  (have hz3 := hb3.size; (repeat (first | rw [World.size_alloc] at hz3 | rw [World.size_setCell] at hz3 | rw [World.size_drew] at hz3)); have pp := C2.K hb3 (b := w.heap.size) (x := _) (y := _) (c2A); obtain ⟨kk25, kk26⟩ := pp; have pp := C2.K hb3 (b := w.heap.size + 1) (x := _) (y := _) (c2A); obtain ⟨kk27, kk28⟩ := pp; have pp := C2.K hb3 (b := w.heap.size + 1 + 1) (x := _) (y := _) (c2A); obtain ⟨kk29, kk30⟩ := pp; have pp := C2.K hb3 (b := w.heap.size + 1 + 1 + 1) (x := _) (y := _) (c2A); obtain ⟨kk31, kk32⟩ := pp; have pp := C2.K hb3 (b := w1.heap.size) (x := _) (y := _) (c2A); obtain ⟨kk33, kk34⟩ := pp; have pp := C2.K hb3 (b := w1.heap.size + 1) (x := _) (y := _) (c2A); obtain ⟨kk35, kk36⟩ := pp; have pp := C2.K hb3 (b := w2.heap.size) (x := _) (y := _) (c2A); obtain ⟨kk37, kk38⟩ := pp; have pp := T2.K hb3 (b := w.heap.size + 1 + 1 + 1 + 1) (x := _) (y := _) (t2A); obtain ⟨kk39, kk40, fkk39, fkk40⟩ := pp; (try clear kk11 kk12 kk13 kk14 kk15 kk16 kk17 kk18 kk19 kk20 fkk19 fkk20 kk21 kk22 kk23 kk24))
  go_cut [14] (fun v wx => CutX w3 p q v wx)
  case first =>
    (go_region_held3 (fun w' => w'.cell? ⟨w1.heap.size + 1, 0, none⟩ = some (.int .i64 (C)) ∧ w'.cell? ⟨w1.heap.size + 1, 1, none⟩ = some (.int .i64 (D)) ∧ w'.cell? ⟨w.heap.size + 1 + 1 + 1, 0, none⟩ = some (.int .i64 (g)) ∧ w'.cell? ⟨w.heap.size + 1 + 1 + 1, 1, none⟩ = some (.int .i64 (h)) ∧ w'.cell? ⟨w2.heap.size, 0, none⟩ = some (.int .i64 (X)) ∧ w'.cell? ⟨w2.heap.size, 1, none⟩ = some (.int .i64 (Y))) (first | (go_keep; done) | ((try dsimp only); refine ⟨?_, ?_, ?_, ?_, ?_, ?_⟩ <;> exact kcA)) (first | (go_at_call 38; obtain ⟨q0, q1, q2, q3, q4, q5⟩ := ‹_ ∧ _ ∧ _ ∧ _ ∧ _ ∧ _›; refine (slTimes_b _ (by omega) (by omega) (by omega) (by omega) (by omega) (by omega) (by omega) (by omega) t1 t2).mono ?_; rintro e w4 ⟨rfl, hb4⟩; have hz4 := hb4.size; (repeat (first | rw [World.size_alloc] at hz4 | rw [World.size_setCell] at hz4 | rw [World.size_drew] at hz4)); have kk41 := keep hb4 q0; have kk42 := keep hb4 q1; have kk43 := keep hb4 q2; have kk44 := keep hb4 q3; have kk45 := keep hb4 q4; have kk46 := keep hb4 q5; obtain ⟨hc4, hf4⟩ := bcell hb4; (try have cc47 := carry1 hb4 (b := w3.heap.size) (by ((repeat (first | rw [World.size_alloc] | rw [World.size_setCell] | rw [World.size_drew])); omega))); (try have cc48 := carry1 hb4 (b := w3.heap.size + 1) (by ((repeat (first | rw [World.size_alloc] | rw [World.size_setCell] | rw [World.size_drew])); omega))); clear q0 q1 q2 q3 q4 q5) | (go_at_call 51; obtain ⟨q0, q1, q2, q3, q4, q5⟩ := ‹_ ∧ _ ∧ _ ∧ _ ∧ _ ∧ _›; refine (l3Divided_b _ z1 z2 hd r1 r2).mono ?_; rintro e w5 ⟨u1, u2, rfl, hb5⟩; have hz5 := hb5.size; (repeat (first | rw [World.size_alloc] at hz5 | rw [World.size_setCell] at hz5 | rw [World.size_drew] at hz5)); have kk49 := keep hb5 q0; have kk50 := keep hb5 q1; have kk51 := keep hb5 q2; have kk52 := keep hb5 q3; have kk53 := keep hb5 q4; have kk54 := keep hb5 q5; obtain ⟨hc5, hf5⟩ := bcell hb5; (try have cc55 := carry1 hb5 (b := w3.heap.size) (by ((repeat (first | rw [World.size_alloc] | rw [World.size_setCell] | rw [World.size_drew])); omega))); (try have cc56 := carry1 hb5 (b := w3.heap.size + 1) (by ((repeat (first | rw [World.size_alloc] | rw [World.size_setCell] | rw [World.size_drew])); omega))); (try have cc57 := carry1 hb5 (b := w4.heap.size) (by ((repeat (first | rw [World.size_alloc] | rw [World.size_setCell] | rw [World.size_drew])); omega))); (try have cc58 := carry1 hb5 (b := w4.heap.size + 1) (by ((repeat (first | rw [World.size_alloc] | rw [World.size_setCell] | rw [World.size_drew])); omega))); clear q0 q1 q2 q3 q4 q5)); (try clear kk25 kk26 kk27 kk28 kk29 kk30 kk31 kk32 kk33 kk34 kk35 kk36 kk37 kk38 kk39 kk40 fkk39 fkk40))
    all_goals (go_wp2_with fail; go_meet; exact ⟨_, rfl, by ((try simp only [World.size_alloc, World.size_setCell, World.size_drew]); omega), kcA, kcA, blA⟩)
  case rest =>
    obtain ⟨XA, rfl, mX0, c00, c10, hbx0⟩ := hcut
    have hl0 := World.block_lt_of_cell? _ _ c00
    simp only at hl0
    (have hzx0 := hbx0.size; (repeat (first | rw [World.size_alloc] at hzx0 | rw [World.size_setCell] at hzx0 | rw [World.size_drew] at hzx0)); have pp := C2.K hbx0 (b := w.heap.size) (x := _) (y := _) (c2A); obtain ⟨kk59, kk60⟩ := pp; have pp := C2.K hbx0 (b := w.heap.size + 1) (x := _) (y := _) (c2A); obtain ⟨kk61, kk62⟩ := pp; have pp := C2.K hbx0 (b := w.heap.size + 1 + 1) (x := _) (y := _) (c2A); obtain ⟨kk63, kk64⟩ := pp; have pp := C2.K hbx0 (b := w1.heap.size) (x := _) (y := _) (c2A); obtain ⟨kk65, kk66⟩ := pp; have pp := C2.K hbx0 (b := w2.heap.size) (x := _) (y := _) (c2A); obtain ⟨kk67, kk68⟩ := pp; have pp := T2.K hbx0 (b := w.heap.size + 1 + 1 + 1 + 1) (x := _) (y := _) (t2A); obtain ⟨kk69, kk70, fkk69, fkk70⟩ := pp; (try clear kk41 kk42 kk43 kk44 kk45 kk46 kk49 kk50 kk51 kk52 kk53 kk54))
    clear t1 t2 z1 z2 r1 r2
    go_upto_region 4 with fail
    refine wp_name ?_
    intro w6 hb6
    (have hz6 := hb6.size; (repeat (first | rw [World.size_alloc] at hz6 | rw [World.size_setCell] at hz6 | rw [World.size_drew] at hz6)); have pp := C2.K hb6 (b := w.heap.size) (x := _) (y := _) (c2A); obtain ⟨kk71, kk72⟩ := pp; have pp := C2.K hb6 (b := w.heap.size + 1) (x := _) (y := _) (c2A); obtain ⟨kk73, kk74⟩ := pp; have pp := C2.K hb6 (b := w.heap.size + 1 + 1) (x := _) (y := _) (c2A); obtain ⟨kk75, kk76⟩ := pp; have pp := C2.K hb6 (b := w1.heap.size) (x := _) (y := _) (c2A); obtain ⟨kk77, kk78⟩ := pp; have pp := C2.K hb6 (b := w2.heap.size) (x := _) (y := _) (c2A); obtain ⟨kk79, kk80⟩ := pp; have pp := C2.K hb6 (b := XA) (x := _) (y := _) (c2A); obtain ⟨kk81, kk82⟩ := pp; have pp := T2.K hb6 (b := w.heap.size + 1 + 1 + 1 + 1) (x := _) (y := _) (t2A); obtain ⟨kk83, kk84, fkk83, fkk84⟩ := pp; (try clear kk59 kk60 kk61 kk62 kk63 kk64 kk65 kk66 kk67 kk68 kk69 kk70 fkk69 fkk70))
    go_cut [16] (fun v wx => CutX w6 r s v wx)
    case first =>
      (go_region_held3 (fun w' => w'.cell? ⟨w1.heap.size, 0, none⟩ = some (.int .i64 (A)) ∧ w'.cell? ⟨w1.heap.size, 1, none⟩ = some (.int .i64 (B)) ∧ w'.cell? ⟨w.heap.size + 1 + 1, 0, none⟩ = some (.int .i64 (e)) ∧ w'.cell? ⟨w.heap.size + 1 + 1, 1, none⟩ = some (.int .i64 (f)) ∧ w'.cell? ⟨w2.heap.size, 0, none⟩ = some (.int .i64 (X)) ∧ w'.cell? ⟨w2.heap.size, 1, none⟩ = some (.int .i64 (Y))) (first | (go_keep; done) | ((try dsimp only); refine ⟨?_, ?_, ?_, ?_, ?_, ?_⟩ <;> exact kcA)) (first | (go_at_call 38; obtain ⟨q0, q1, q2, q3, q4, q5⟩ := ‹_ ∧ _ ∧ _ ∧ _ ∧ _ ∧ _›; refine (slTimes_b _ (by omega) (by omega) (by omega) (by omega) (by omega) (by omega) (by omega) (by omega) t3 t4).mono ?_; rintro e w7 ⟨rfl, hb7⟩; have hz7 := hb7.size; (repeat (first | rw [World.size_alloc] at hz7 | rw [World.size_setCell] at hz7 | rw [World.size_drew] at hz7)); have kk85 := keep hb7 q0; have kk86 := keep hb7 q1; have kk87 := keep hb7 q2; have kk88 := keep hb7 q3; have kk89 := keep hb7 q4; have kk90 := keep hb7 q5; obtain ⟨hc7, hf7⟩ := bcell hb7; (try have cc91 := carry1 hb7 (b := w6.heap.size) (by ((repeat (first | rw [World.size_alloc] | rw [World.size_setCell] | rw [World.size_drew])); omega))); (try have cc92 := carry1 hb7 (b := w6.heap.size + 1) (by ((repeat (first | rw [World.size_alloc] | rw [World.size_setCell] | rw [World.size_drew])); omega))); clear q0 q1 q2 q3 q4 q5) | (go_at_call 51; obtain ⟨q0, q1, q2, q3, q4, q5⟩ := ‹_ ∧ _ ∧ _ ∧ _ ∧ _ ∧ _›; refine (l3Divided_b _ z3 z4 hd r3 r4).mono ?_; rintro e w8 ⟨u1, u2, rfl, hb8⟩; have hz8 := hb8.size; (repeat (first | rw [World.size_alloc] at hz8 | rw [World.size_setCell] at hz8 | rw [World.size_drew] at hz8)); have kk93 := keep hb8 q0; have kk94 := keep hb8 q1; have kk95 := keep hb8 q2; have kk96 := keep hb8 q3; have kk97 := keep hb8 q4; have kk98 := keep hb8 q5; obtain ⟨hc8, hf8⟩ := bcell hb8; (try have cc99 := carry1 hb8 (b := w6.heap.size) (by ((repeat (first | rw [World.size_alloc] | rw [World.size_setCell] | rw [World.size_drew])); omega))); (try have cc100 := carry1 hb8 (b := w6.heap.size + 1) (by ((repeat (first | rw [World.size_alloc] | rw [World.size_setCell] | rw [World.size_drew])); omega))); (try have cc101 := carry1 hb8 (b := w7.heap.size) (by ((repeat (first | rw [World.size_alloc] | rw [World.size_setCell] | rw [World.size_drew])); omega))); (try have cc102 := carry1 hb8 (b := w7.heap.size + 1) (by ((repeat (first | rw [World.size_alloc] | rw [World.size_setCell] | rw [World.size_drew])); omega))); clear q0 q1 q2 q3 q4 q5)); (try clear kk71 kk72 kk73 kk74 kk75 kk76 kk77 kk78 kk79 kk80 kk81 kk82 kk83 kk84 fkk83 fkk84))
      all_goals (go_wp2_with fail; go_meet; exact ⟨_, rfl, by ((try simp only [World.size_alloc, World.size_setCell, World.size_drew]); omega), kcA, kcA, blA⟩)
    case rest =>
      obtain ⟨XB, rfl, mX1, c01, c11, hbx1⟩ := hcut
      have hl1 := World.block_lt_of_cell? _ _ c01
      simp only at hl1
      (have hzx1 := hbx1.size; (repeat (first | rw [World.size_alloc] at hzx1 | rw [World.size_setCell] at hzx1 | rw [World.size_drew] at hzx1)); have pp := C2.K hbx1 (b := w.heap.size) (x := _) (y := _) (c2A); obtain ⟨kk103, kk104⟩ := pp; have pp := C2.K hbx1 (b := w.heap.size + 1) (x := _) (y := _) (c2A); obtain ⟨kk105, kk106⟩ := pp; have pp := C2.K hbx1 (b := w2.heap.size) (x := _) (y := _) (c2A); obtain ⟨kk107, kk108⟩ := pp; have pp := C2.K hbx1 (b := XA) (x := _) (y := _) (c2A); obtain ⟨kk109, kk110⟩ := pp; have pp := T2.K hbx1 (b := w.heap.size + 1 + 1 + 1 + 1) (x := _) (y := _) (t2A); obtain ⟨kk111, kk112, fkk111, fkk112⟩ := pp; (try clear kk85 kk86 kk87 kk88 kk89 kk90 kk93 kk94 kk95 kk96 kk97 kk98))
      clear t3 t4 z3 z4 r3 r4
      go_upto_region 5 with fail
      refine wp_name ?_
      intro w9 hb9
      (have hz9 := hb9.size; (repeat (first | rw [World.size_alloc] at hz9 | rw [World.size_setCell] at hz9 | rw [World.size_drew] at hz9)); have pp := C2.K hb9 (b := w.heap.size) (x := _) (y := _) (c2A); obtain ⟨kk113, kk114⟩ := pp; have pp := C2.K hb9 (b := w.heap.size + 1) (x := _) (y := _) (c2A); obtain ⟨kk115, kk116⟩ := pp; have pp := C2.K hb9 (b := w2.heap.size) (x := _) (y := _) (c2A); obtain ⟨kk117, kk118⟩ := pp; have pp := C2.K hb9 (b := XA) (x := _) (y := _) (c2A); obtain ⟨kk119, kk120⟩ := pp; have pp := C2.K hb9 (b := XB) (x := _) (y := _) (c2A); obtain ⟨kk121, kk122⟩ := pp; have pp := T2.K hb9 (b := w.heap.size + 1 + 1 + 1 + 1) (x := _) (y := _) (t2A); obtain ⟨kk123, kk124, fkk123, fkk124⟩ := pp; (try clear kk103 kk104 kk105 kk106 kk107 kk108 kk109 kk110 kk111 kk112 fkk111 fkk112))
      go_cut [18] (fun v wx => CutX w9 P1 P2 v wx)
      case first =>
        (go_region_held3 (fun w' => w'.cell? ⟨XA, 0, none⟩ = some (.int .i64 (p)) ∧ w'.cell? ⟨XA, 1, none⟩ = some (.int .i64 (q)) ∧ w'.cell? ⟨w.heap.size, 0, none⟩ = some (.int .i64 (a)) ∧ w'.cell? ⟨w.heap.size, 1, none⟩ = some (.int .i64 (b)) ∧ w'.cell? ⟨w2.heap.size, 0, none⟩ = some (.int .i64 (X)) ∧ w'.cell? ⟨w2.heap.size, 1, none⟩ = some (.int .i64 (Y))) (first | (go_keep; done) | ((try dsimp only); refine ⟨?_, ?_, ?_, ?_, ?_, ?_⟩ <;> exact kcA)) (first | (go_at_call 38; obtain ⟨q0, q1, q2, q3, q4, q5⟩ := ‹_ ∧ _ ∧ _ ∧ _ ∧ _ ∧ _›; refine (slTimes_b _ (by omega) (by omega) (by omega) (by omega) (by omega) (by omega) (by omega) (by omega) t5 t6).mono ?_; rintro e w10 ⟨rfl, hb10⟩; have hz10 := hb10.size; (repeat (first | rw [World.size_alloc] at hz10 | rw [World.size_setCell] at hz10 | rw [World.size_drew] at hz10)); have kk125 := keep hb10 q0; have kk126 := keep hb10 q1; have kk127 := keep hb10 q2; have kk128 := keep hb10 q3; have kk129 := keep hb10 q4; have kk130 := keep hb10 q5; obtain ⟨hc10, hf10⟩ := bcell hb10; (try have cc131 := carry1 hb10 (b := w9.heap.size) (by ((repeat (first | rw [World.size_alloc] | rw [World.size_setCell] | rw [World.size_drew])); omega))); (try have cc132 := carry1 hb10 (b := w9.heap.size + 1) (by ((repeat (first | rw [World.size_alloc] | rw [World.size_setCell] | rw [World.size_drew])); omega))); clear q0 q1 q2 q3 q4 q5) | (go_at_call 51; obtain ⟨q0, q1, q2, q3, q4, q5⟩ := ‹_ ∧ _ ∧ _ ∧ _ ∧ _ ∧ _›; refine (l3Divided_b _ z5 z6 hd r5 r6).mono ?_; rintro e w11 ⟨u1, u2, rfl, hb11⟩; have hz11 := hb11.size; (repeat (first | rw [World.size_alloc] at hz11 | rw [World.size_setCell] at hz11 | rw [World.size_drew] at hz11)); have kk133 := keep hb11 q0; have kk134 := keep hb11 q1; have kk135 := keep hb11 q2; have kk136 := keep hb11 q3; have kk137 := keep hb11 q4; have kk138 := keep hb11 q5; obtain ⟨hc11, hf11⟩ := bcell hb11; (try have cc139 := carry1 hb11 (b := w9.heap.size) (by ((repeat (first | rw [World.size_alloc] | rw [World.size_setCell] | rw [World.size_drew])); omega))); (try have cc140 := carry1 hb11 (b := w9.heap.size + 1) (by ((repeat (first | rw [World.size_alloc] | rw [World.size_setCell] | rw [World.size_drew])); omega))); (try have cc141 := carry1 hb11 (b := w10.heap.size) (by ((repeat (first | rw [World.size_alloc] | rw [World.size_setCell] | rw [World.size_drew])); omega))); (try have cc142 := carry1 hb11 (b := w10.heap.size + 1) (by ((repeat (first | rw [World.size_alloc] | rw [World.size_setCell] | rw [World.size_drew])); omega))); clear q0 q1 q2 q3 q4 q5)); (try clear kk113 kk114 kk115 kk116 kk117 kk118 kk119 kk120 kk121 kk122 kk123 kk124 fkk123 fkk124))
        all_goals (go_wp2_with fail; go_meet; exact ⟨_, rfl, by ((try simp only [World.size_alloc, World.size_setCell, World.size_drew]); omega), kcA, kcA, blA⟩)
      case rest =>
        obtain ⟨XC, rfl, mX2, c02, c12, hbx2⟩ := hcut
        have hl2 := World.block_lt_of_cell? _ _ c02
        simp only at hl2
        (have hzx2 := hbx2.size; (repeat (first | rw [World.size_alloc] at hzx2 | rw [World.size_setCell] at hzx2 | rw [World.size_drew] at hzx2)); have pp := C2.K hbx2 (b := w.heap.size + 1) (x := _) (y := _) (c2A); obtain ⟨kk143, kk144⟩ := pp; have pp := C2.K hbx2 (b := w2.heap.size) (x := _) (y := _) (c2A); obtain ⟨kk145, kk146⟩ := pp; have pp := C2.K hbx2 (b := XB) (x := _) (y := _) (c2A); obtain ⟨kk147, kk148⟩ := pp; have pp := T2.K hbx2 (b := w.heap.size + 1 + 1 + 1 + 1) (x := _) (y := _) (t2A); obtain ⟨kk149, kk150, fkk149, fkk150⟩ := pp; (try clear kk125 kk126 kk127 kk128 kk129 kk130 kk133 kk134 kk135 kk136 kk137 kk138))
        clear t5 t6 z5 z6 r5 r6
        go_upto_region 6 with fail
        refine wp_name ?_
        intro w12 hb12
        (have hz12 := hb12.size; (repeat (first | rw [World.size_alloc] at hz12 | rw [World.size_setCell] at hz12 | rw [World.size_drew] at hz12)); have pp := C2.K hb12 (b := w.heap.size + 1) (x := _) (y := _) (c2A); obtain ⟨kk151, kk152⟩ := pp; have pp := C2.K hb12 (b := w2.heap.size) (x := _) (y := _) (c2A); obtain ⟨kk153, kk154⟩ := pp; have pp := C2.K hb12 (b := XB) (x := _) (y := _) (c2A); obtain ⟨kk155, kk156⟩ := pp; have pp := C2.K hb12 (b := XC) (x := _) (y := _) (c2A); obtain ⟨kk157, kk158⟩ := pp; have pp := T2.K hb12 (b := w.heap.size + 1 + 1 + 1 + 1) (x := _) (y := _) (t2A); obtain ⟨kk159, kk160, fkk159, fkk160⟩ := pp; (try clear kk143 kk144 kk145 kk146 kk147 kk148 kk149 kk150 fkk149 fkk150))
        go_cut [20] (fun v wx => CutX w12 Q1 Q2 v wx)
        case first =>
          (go_region_held3 (fun w' => w'.cell? ⟨XB, 0, none⟩ = some (.int .i64 (r)) ∧ w'.cell? ⟨XB, 1, none⟩ = some (.int .i64 (s)) ∧ w'.cell? ⟨w.heap.size + 1, 0, none⟩ = some (.int .i64 (c)) ∧ w'.cell? ⟨w.heap.size + 1, 1, none⟩ = some (.int .i64 (d)) ∧ w'.cell? ⟨w2.heap.size, 0, none⟩ = some (.int .i64 (X)) ∧ w'.cell? ⟨w2.heap.size, 1, none⟩ = some (.int .i64 (Y))) (first | (go_keep; done) | ((try dsimp only); refine ⟨?_, ?_, ?_, ?_, ?_, ?_⟩ <;> exact kcA)) (first | (go_at_call 38; obtain ⟨q0, q1, q2, q3, q4, q5⟩ := ‹_ ∧ _ ∧ _ ∧ _ ∧ _ ∧ _›; refine (slTimes_b _ (by omega) (by omega) (by omega) (by omega) (by omega) (by omega) (by omega) (by omega) t7 t8).mono ?_; rintro e w13 ⟨rfl, hb13⟩; have hz13 := hb13.size; (repeat (first | rw [World.size_alloc] at hz13 | rw [World.size_setCell] at hz13 | rw [World.size_drew] at hz13)); have kk161 := keep hb13 q0; have kk162 := keep hb13 q1; have kk163 := keep hb13 q2; have kk164 := keep hb13 q3; have kk165 := keep hb13 q4; have kk166 := keep hb13 q5; obtain ⟨hc13, hf13⟩ := bcell hb13; (try have cc167 := carry1 hb13 (b := w12.heap.size) (by ((repeat (first | rw [World.size_alloc] | rw [World.size_setCell] | rw [World.size_drew])); omega))); (try have cc168 := carry1 hb13 (b := w12.heap.size + 1) (by ((repeat (first | rw [World.size_alloc] | rw [World.size_setCell] | rw [World.size_drew])); omega))); clear q0 q1 q2 q3 q4 q5) | (go_at_call 51; obtain ⟨q0, q1, q2, q3, q4, q5⟩ := ‹_ ∧ _ ∧ _ ∧ _ ∧ _ ∧ _›; refine (l3Divided_b _ z7 z8 hd r7 r8).mono ?_; rintro e w14 ⟨u1, u2, rfl, hb14⟩; have hz14 := hb14.size; (repeat (first | rw [World.size_alloc] at hz14 | rw [World.size_setCell] at hz14 | rw [World.size_drew] at hz14)); have kk169 := keep hb14 q0; have kk170 := keep hb14 q1; have kk171 := keep hb14 q2; have kk172 := keep hb14 q3; have kk173 := keep hb14 q4; have kk174 := keep hb14 q5; obtain ⟨hc14, hf14⟩ := bcell hb14; (try have cc175 := carry1 hb14 (b := w12.heap.size) (by ((repeat (first | rw [World.size_alloc] | rw [World.size_setCell] | rw [World.size_drew])); omega))); (try have cc176 := carry1 hb14 (b := w12.heap.size + 1) (by ((repeat (first | rw [World.size_alloc] | rw [World.size_setCell] | rw [World.size_drew])); omega))); (try have cc177 := carry1 hb14 (b := w13.heap.size) (by ((repeat (first | rw [World.size_alloc] | rw [World.size_setCell] | rw [World.size_drew])); omega))); (try have cc178 := carry1 hb14 (b := w13.heap.size + 1) (by ((repeat (first | rw [World.size_alloc] | rw [World.size_setCell] | rw [World.size_drew])); omega))); clear q0 q1 q2 q3 q4 q5)); (try clear kk151 kk152 kk153 kk154 kk155 kk156 kk157 kk158 kk159 kk160 fkk159 fkk160))
          all_goals (go_wp2_with fail; go_meet; exact ⟨_, rfl, by ((try simp only [World.size_alloc, World.size_setCell, World.size_drew]); omega), kcA, kcA, blA⟩)
        case rest =>
          obtain ⟨XD, rfl, mX3, c03, c13, hbx3⟩ := hcut
          have hl3 := World.block_lt_of_cell? _ _ c03
          simp only at hl3
          (have hzx3 := hbx3.size; (repeat (first | rw [World.size_alloc] at hzx3 | rw [World.size_setCell] at hzx3 | rw [World.size_drew] at hzx3)); have pp := C2.K hbx3 (b := w2.heap.size) (x := _) (y := _) (c2A); obtain ⟨kk179, kk180⟩ := pp; have pp := C2.K hbx3 (b := XC) (x := _) (y := _) (c2A); obtain ⟨kk181, kk182⟩ := pp; have pp := T2.K hbx3 (b := w.heap.size + 1 + 1 + 1 + 1) (x := _) (y := _) (t2A); obtain ⟨kk183, kk184, fkk183, fkk184⟩ := pp; (try clear kk161 kk162 kk163 kk164 kk165 kk166 kk169 kk170 kk171 kk172 kk173 kk174))
          clear t7 t8 z7 z8 r7 r8
          go_wp2_with fail
          (refine (l3Divided_b _ z9 z10 hd r9 r10).mono ?_; rintro e w20 ⟨u1, u2, rfl, hb20⟩; have hz20 := hb20.size; (repeat (first | rw [World.size_alloc] at hz20 | rw [World.size_setCell] at hz20 | rw [World.size_drew] at hz20)); have pp := T2.K hb20 (b := w.heap.size + 1 + 1 + 1 + 1) (x := _) (y := _) (t2A); obtain ⟨kk185, kk186, fkk185, fkk186⟩ := pp; (try clear kk179 kk180 kk181 kk182 kk183 kk184 fkk183 fkk184))
          go_wp2_with fail
          refine bodyPost_ret (v := .agg #[.int .i64 x, .int .i64 y]) (by simp [results, Try.results45, go_sem, *]) rfl ?_; exact ⟨rfl, blA⟩
set_option maxHeartbeats 4000000 in
theorem sl9Join_j {a b c d e f g h x y : Int} (w : World) (k1 : gok a b = true) (k2 : gok c d = true) (k3 : paO e f g h = true) (hj : Join (e, f) (g, h) (a, b) (c, d) (x, y)) : Calls Try.prog 45 #[.agg #[.int .i64 a, .int .i64 b], .agg #[.int .i64 c, .int .i64 d], .agg #[.int .i64 e, .int .i64 f], .agg #[.int .i64 g, .int .i64 h]] w fun e' w' => e' = .returned (.agg #[.int .i64 x, .int .i64 y]) ∧ Below w.heap.size w w' := by
  obtain ⟨A, B, C, D, p, q, r, s, P1, P2, Q1, Q2, R1, R2, T1, V0, U1, U2, V1, V2, S1, S2, hc, H⟩ := sw_is k1 k2 k3 hj
  exact sl9Join_v w hc rfl rfl H
set_option maxHeartbeats 4000000 in
theorem sJoinedOf_v {a b c d e f g h x y : Int} {o : Bool} (w : World) (k : JoIs a b c d e f g h o x y) : Calls Try.prog 18 #[.agg #[.int .i64 a, .int .i64 b], .agg #[.int .i64 c, .int .i64 d], .agg #[.int .i64 e, .int .i64 f], .agg #[.int .i64 g, .int .i64 h]] w fun e' w' => e' = .returned (.tuple #[.agg #[.int .i64 x, .int .i64 y], .bool o]) ∧ Below w.heap.size w w' := by
  cases k1 : gok a b
  · obtain rfl : o = false := by rw [k.is, k1]; rfl
    obtain ⟨rfl, rfl⟩ := k.no rfl
    clear k
    go_enter Try.func18, Try.ntmps18
    go_wp2_with fail
    (refine (sGaussOk _ _ _).mono ?_; rintro e w1 ⟨rfl, hb1⟩; have hz1 := hb1.size; (repeat (first | rw [World.size_alloc] at hz1 | rw [World.size_setCell] at hz1 | rw [World.size_drew] at hz1)); have pp := T2.K hb1 (b := w.heap.size + 1 + 1 + 1 + 1) (x := _) (y := _) (t2A); obtain ⟨kk1, kk2, fkk1, fkk2⟩ := pp)
    go_wp2_with fail
    refine bodyPost_ret (v := .tuple #[.agg #[.int .i64 0, .int .i64 0], .bool false]) (by simp [results, Try.results18, go_sem, *]) rfl ?_; exact ⟨rfl, blA⟩
  cases k2 : gok c d
  · obtain rfl : o = false := by rw [k.is, k1, k2]; rfl
    obtain ⟨rfl, rfl⟩ := k.no rfl
    clear k
    go_enter Try.func18, Try.ntmps18
    go_wp2_with fail
    (refine (sGaussOk _ _ _).mono ?_; rintro e w1 ⟨rfl, hb1⟩; have hz1 := hb1.size; (repeat (first | rw [World.size_alloc] at hz1 | rw [World.size_setCell] at hz1 | rw [World.size_drew] at hz1)); have pp := C2.K hb1 (b := w.heap.size + 1) (x := _) (y := _) (c2A); obtain ⟨kk3, kk4⟩ := pp; have pp := T2.K hb1 (b := w.heap.size + 1 + 1 + 1 + 1) (x := _) (y := _) (t2A); obtain ⟨kk5, kk6, fkk5, fkk6⟩ := pp; (try clear kk1 kk2 fkk1 fkk2))
    go_wp2_with fail
    (refine (sGaussOk _ _ _).mono ?_; rintro e w2 ⟨rfl, hb2⟩; have hz2 := hb2.size; (repeat (first | rw [World.size_alloc] at hz2 | rw [World.size_setCell] at hz2 | rw [World.size_drew] at hz2)); have pp := T2.K hb2 (b := w.heap.size + 1 + 1 + 1 + 1) (x := _) (y := _) (t2A); obtain ⟨kk7, kk8, fkk7, fkk8⟩ := pp; (try clear kk3 kk4 kk5 kk6 fkk5 fkk6))
    go_wp2_with fail
    refine bodyPost_ret (v := .tuple #[.agg #[.int .i64 0, .int .i64 0], .bool false]) (by simp [results, Try.results18, go_sem, *]) rfl ?_; exact ⟨rfl, blA⟩
  cases kp : paO e f g h
  · obtain rfl : o = false := by rw [k.is, kp, Bool.and_false]
    obtain ⟨rfl, rfl⟩ := k.no rfl
    clear k
    go_enter Try.func18, Try.ntmps18
    go_wp2_with fail
    (refine (sGaussOk _ _ _).mono ?_; rintro e w1 ⟨rfl, hb1⟩; have hz1 := hb1.size; (repeat (first | rw [World.size_alloc] at hz1 | rw [World.size_setCell] at hz1 | rw [World.size_drew] at hz1)); have pp := C2.K hb1 (b := w.heap.size + 1) (x := _) (y := _) (c2A); obtain ⟨kk9, kk10⟩ := pp; have pp := C2.K hb1 (b := w.heap.size + 1 + 1) (x := _) (y := _) (c2A); obtain ⟨kk11, kk12⟩ := pp; have pp := C2.K hb1 (b := w.heap.size + 1 + 1 + 1) (x := _) (y := _) (c2A); obtain ⟨kk13, kk14⟩ := pp; have pp := T2.K hb1 (b := w.heap.size + 1 + 1 + 1 + 1) (x := _) (y := _) (t2A); obtain ⟨kk15, kk16, fkk15, fkk16⟩ := pp; (try clear kk7 kk8 fkk7 fkk8))
    go_wp2_with fail
    (refine (sGaussOk _ _ _).mono ?_; rintro e w2 ⟨rfl, hb2⟩; have hz2 := hb2.size; (repeat (first | rw [World.size_alloc] at hz2 | rw [World.size_setCell] at hz2 | rw [World.size_drew] at hz2)); have pp := C2.K hb2 (b := w.heap.size + 1 + 1) (x := _) (y := _) (c2A); obtain ⟨kk17, kk18⟩ := pp; have pp := C2.K hb2 (b := w.heap.size + 1 + 1 + 1) (x := _) (y := _) (c2A); obtain ⟨kk19, kk20⟩ := pp; have pp := T2.K hb2 (b := w.heap.size + 1 + 1 + 1 + 1) (x := _) (y := _) (t2A); obtain ⟨kk21, kk22, fkk21, fkk22⟩ := pp; (try clear kk9 kk10 kk11 kk12 kk13 kk14 kk15 kk16 fkk15 fkk16))
    go_wp2_with fail
    (refine (sPairOk_v _ kp).mono ?_; rintro e w3 ⟨rfl, hb3⟩; have hz3 := hb3.size; (repeat (first | rw [World.size_alloc] at hz3 | rw [World.size_setCell] at hz3 | rw [World.size_drew] at hz3)); have pp := T2.K hb3 (b := w.heap.size + 1 + 1 + 1 + 1) (x := _) (y := _) (t2A); obtain ⟨kk23, kk24, fkk23, fkk24⟩ := pp; (try clear kk17 kk18 kk19 kk20 kk21 kk22 fkk21 fkk22))
    go_wp2_with fail
    refine bodyPost_ret (v := .tuple #[.agg #[.int .i64 0, .int .i64 0], .bool false]) (by simp [results, Try.results18, go_sem, *]) rfl ?_; exact ⟨rfl, blA⟩
  obtain rfl : o = true := by rw [k.is, k1, k2, kp]; rfl
  have hj := k.val rfl
  clear k
  go_enter Try.func18, Try.ntmps18
  go_wp2_with fail
  (refine (sGaussOk _ _ _).mono ?_; rintro e w1 ⟨rfl, hb1⟩; have hz1 := hb1.size; (repeat (first | rw [World.size_alloc] at hz1 | rw [World.size_setCell] at hz1 | rw [World.size_drew] at hz1)); have pp := C2.K hb1 (b := w.heap.size) (x := _) (y := _) (c2A); obtain ⟨kk25, kk26⟩ := pp; have pp := C2.K hb1 (b := w.heap.size + 1) (x := _) (y := _) (c2A); obtain ⟨kk27, kk28⟩ := pp; have pp := C2.K hb1 (b := w.heap.size + 1 + 1) (x := _) (y := _) (c2A); obtain ⟨kk29, kk30⟩ := pp; have pp := C2.K hb1 (b := w.heap.size + 1 + 1 + 1) (x := _) (y := _) (c2A); obtain ⟨kk31, kk32⟩ := pp; have pp := T2.K hb1 (b := w.heap.size + 1 + 1 + 1 + 1) (x := _) (y := _) (t2A); obtain ⟨kk33, kk34, fkk33, fkk34⟩ := pp; (try clear kk23 kk24 fkk23 fkk24))
  go_wp2_with fail
  (refine (sGaussOk _ _ _).mono ?_; rintro e w2 ⟨rfl, hb2⟩; have hz2 := hb2.size; (repeat (first | rw [World.size_alloc] at hz2 | rw [World.size_setCell] at hz2 | rw [World.size_drew] at hz2)); have pp := C2.K hb2 (b := w.heap.size) (x := _) (y := _) (c2A); obtain ⟨kk35, kk36⟩ := pp; have pp := C2.K hb2 (b := w.heap.size + 1) (x := _) (y := _) (c2A); obtain ⟨kk37, kk38⟩ := pp; have pp := C2.K hb2 (b := w.heap.size + 1 + 1) (x := _) (y := _) (c2A); obtain ⟨kk39, kk40⟩ := pp; have pp := C2.K hb2 (b := w.heap.size + 1 + 1 + 1) (x := _) (y := _) (c2A); obtain ⟨kk41, kk42⟩ := pp; have pp := T2.K hb2 (b := w.heap.size + 1 + 1 + 1 + 1) (x := _) (y := _) (t2A); obtain ⟨kk43, kk44, fkk43, fkk44⟩ := pp; (try clear kk25 kk26 kk27 kk28 kk29 kk30 kk31 kk32 kk33 kk34 fkk33 fkk34))
  go_wp2_with fail
  (refine (sPairOk_v _ kp).mono ?_; rintro e w3 ⟨rfl, hb3⟩; have hz3 := hb3.size; (repeat (first | rw [World.size_alloc] at hz3 | rw [World.size_setCell] at hz3 | rw [World.size_drew] at hz3)); have pp := C2.K hb3 (b := w.heap.size) (x := _) (y := _) (c2A); obtain ⟨kk45, kk46⟩ := pp; have pp := C2.K hb3 (b := w.heap.size + 1) (x := _) (y := _) (c2A); obtain ⟨kk47, kk48⟩ := pp; have pp := C2.K hb3 (b := w.heap.size + 1 + 1) (x := _) (y := _) (c2A); obtain ⟨kk49, kk50⟩ := pp; have pp := C2.K hb3 (b := w.heap.size + 1 + 1 + 1) (x := _) (y := _) (c2A); obtain ⟨kk51, kk52⟩ := pp; have pp := T2.K hb3 (b := w.heap.size + 1 + 1 + 1 + 1) (x := _) (y := _) (t2A); obtain ⟨kk53, kk54, fkk53, fkk54⟩ := pp; (try clear kk35 kk36 kk37 kk38 kk39 kk40 kk41 kk42 kk43 kk44 fkk43 fkk44))
  go_wp2_with fail
  (refine (sl9Join_j _ k1 k2 kp hj).mono ?_; rintro e w4 ⟨rfl, hb4⟩; have hz4 := hb4.size; (repeat (first | rw [World.size_alloc] at hz4 | rw [World.size_setCell] at hz4 | rw [World.size_drew] at hz4)); have pp := T2.K hb4 (b := w.heap.size + 1 + 1 + 1 + 1) (x := _) (y := _) (t2A); obtain ⟨kk55, kk56, fkk55, fkk56⟩ := pp; (try clear kk45 kk46 kk47 kk48 kk49 kk50 kk51 kk52 kk53 kk54 fkk53 fkk54))
  clear k1 k2 kp hj
  go_wp2_with fail
  refine bodyPost_ret (v := .tuple #[.agg #[.int .i64 x, .int .i64 y], .bool true]) (by simp [results, Try.results18, go_sem, *]) rfl ?_; exact ⟨rfl, blA⟩
set_option maxHeartbeats 4000000 in
theorem sPartedOf_v {a b e f g h p q r s : Int} {o : Bool} (w : World) (k : PtIs a b e f g h o p q r s) : Calls Try.prog 24 #[.agg #[.int .i64 a, .int .i64 b], .agg #[.int .i64 e, .int .i64 f], .agg #[.int .i64 g, .int .i64 h]] w fun e' w' => e' = .returned (.tuple #[.agg #[.int .i64 p, .int .i64 q], .agg #[.int .i64 r, .int .i64 s], .bool o]) ∧ Below w.heap.size w w' := by
  cases k1 : gok a b
  · obtain rfl : o = false := by rw [k.is, k1]; rfl
    obtain ⟨rfl, rfl, rfl, rfl⟩ := k.no rfl
    clear k
    go_enter Try.func24, Try.ntmps24
    go_wp2_with fail
    (refine (sGaussOk _ _ _).mono ?_; rintro e w1 ⟨rfl, hb1⟩; have hz1 := hb1.size; (repeat (first | rw [World.size_alloc] at hz1 | rw [World.size_setCell] at hz1 | rw [World.size_drew] at hz1)); have pp := T2.K hb1 (b := w.heap.size + 1 + 1 + 1) (x := _) (y := _) (t2A); obtain ⟨kk1, kk2, fkk1, fkk2⟩ := pp; have pp := T2.K hb1 (b := w.heap.size + 1 + 1 + 1 + 1) (x := _) (y := _) (t2A); obtain ⟨kk3, kk4, fkk3, fkk4⟩ := pp)
    go_wp2_with fail
    refine bodyPost_ret (v := .tuple #[.agg #[.int .i64 0, .int .i64 0], .agg #[.int .i64 0, .int .i64 0], .bool false]) (by simp [results, Try.results24, go_sem, *]) rfl ?_; exact ⟨rfl, blA⟩
  cases kp : paO e f g h
  · obtain rfl : o = false := by rw [k.is, kp, Bool.and_false]
    obtain ⟨rfl, rfl, rfl, rfl⟩ := k.no rfl
    clear k
    go_enter Try.func24, Try.ntmps24
    go_wp2_with fail
    (refine (sGaussOk _ _ _).mono ?_; rintro e w1 ⟨rfl, hb1⟩; have hz1 := hb1.size; (repeat (first | rw [World.size_alloc] at hz1 | rw [World.size_setCell] at hz1 | rw [World.size_drew] at hz1)); have pp := C2.K hb1 (b := w.heap.size + 1) (x := _) (y := _) (c2A); obtain ⟨kk5, kk6⟩ := pp; have pp := C2.K hb1 (b := w.heap.size + 1 + 1) (x := _) (y := _) (c2A); obtain ⟨kk7, kk8⟩ := pp; have pp := T2.K hb1 (b := w.heap.size + 1 + 1 + 1) (x := _) (y := _) (t2A); obtain ⟨kk9, kk10, fkk9, fkk10⟩ := pp; have pp := T2.K hb1 (b := w.heap.size + 1 + 1 + 1 + 1) (x := _) (y := _) (t2A); obtain ⟨kk11, kk12, fkk11, fkk12⟩ := pp; (try clear kk1 kk2 fkk1 fkk2 kk3 kk4 fkk3 fkk4))
    go_wp2_with fail
    (refine (sPairOk_v _ kp).mono ?_; rintro e w2 ⟨rfl, hb2⟩; have hz2 := hb2.size; (repeat (first | rw [World.size_alloc] at hz2 | rw [World.size_setCell] at hz2 | rw [World.size_drew] at hz2)); have pp := T2.K hb2 (b := w.heap.size + 1 + 1 + 1) (x := _) (y := _) (t2A); obtain ⟨kk13, kk14, fkk13, fkk14⟩ := pp; have pp := T2.K hb2 (b := w.heap.size + 1 + 1 + 1 + 1) (x := _) (y := _) (t2A); obtain ⟨kk15, kk16, fkk15, fkk16⟩ := pp; (try clear kk5 kk6 kk7 kk8 kk9 kk10 fkk9 fkk10 kk11 kk12 fkk11 fkk12))
    go_wp2_with fail
    refine bodyPost_ret (v := .tuple #[.agg #[.int .i64 0, .int .i64 0], .agg #[.int .i64 0, .int .i64 0], .bool false]) (by simp [results, Try.results24, go_sem, *]) rfl ?_; exact ⟨rfl, blA⟩
  obtain rfl : o = true := by rw [k.is, k1, kp]; rfl
  obtain ⟨hv1, hv2⟩ := k.val rfl
  have m1 := (pa_is kp).1
  have m2 := (pa_is kp).2.1
  have b0 : Bw a ∧ Bw b := by
    obtain ⟨⟨u1, u2⟩, ⟨u3, u4⟩⟩ := gok_Bd k1
    exact ⟨Bw_of (by omega) (by omega), Bw_of (by omega) (by omega)⟩
  obtain ⟨b1, b2⟩ := b0
  have e1 : rA a b e f = p := congrArg Prod.fst hv1
  have e2 : rB a b e f = q := congrArg Prod.snd hv1
  have e3 : rA a b g h = r := congrArg Prod.fst hv2
  have e4 : rB a b g h = s := congrArg Prod.snd hv2
  clear k hv1 hv2
  go_enter Try.func24, Try.ntmps24
  go_wp2_with fail
  (refine (sGaussOk _ _ _).mono ?_; rintro e w1 ⟨rfl, hb1⟩; have hz1 := hb1.size; (repeat (first | rw [World.size_alloc] at hz1 | rw [World.size_setCell] at hz1 | rw [World.size_drew] at hz1)); have pp := C2.K hb1 (b := w.heap.size) (x := _) (y := _) (c2A); obtain ⟨kk17, kk18⟩ := pp; have pp := C2.K hb1 (b := w.heap.size + 1) (x := _) (y := _) (c2A); obtain ⟨kk19, kk20⟩ := pp; have pp := C2.K hb1 (b := w.heap.size + 1 + 1) (x := _) (y := _) (c2A); obtain ⟨kk21, kk22⟩ := pp; have pp := T2.K hb1 (b := w.heap.size + 1 + 1 + 1) (x := _) (y := _) (t2A); obtain ⟨kk23, kk24, fkk23, fkk24⟩ := pp; have pp := T2.K hb1 (b := w.heap.size + 1 + 1 + 1 + 1) (x := _) (y := _) (t2A); obtain ⟨kk25, kk26, fkk25, fkk26⟩ := pp; (try clear kk13 kk14 fkk13 fkk14 kk15 kk16 fkk15 fkk16))
  go_wp2_with fail
  (refine (sPairOk_v _ kp).mono ?_; rintro e w2 ⟨rfl, hb2⟩; have hz2 := hb2.size; (repeat (first | rw [World.size_alloc] at hz2 | rw [World.size_setCell] at hz2 | rw [World.size_drew] at hz2)); have pp := C2.K hb2 (b := w.heap.size) (x := _) (y := _) (c2A); obtain ⟨kk27, kk28⟩ := pp; have pp := C2.K hb2 (b := w.heap.size + 1) (x := _) (y := _) (c2A); obtain ⟨kk29, kk30⟩ := pp; have pp := C2.K hb2 (b := w.heap.size + 1 + 1) (x := _) (y := _) (c2A); obtain ⟨kk31, kk32⟩ := pp; have pp := T2.K hb2 (b := w.heap.size + 1 + 1 + 1) (x := _) (y := _) (t2A); obtain ⟨kk33, kk34, fkk33, fkk34⟩ := pp; have pp := T2.K hb2 (b := w.heap.size + 1 + 1 + 1 + 1) (x := _) (y := _) (t2A); obtain ⟨kk35, kk36, fkk35, fkk36⟩ := pp; (try clear kk17 kk18 kk19 kk20 kk21 kk22 kk23 kk24 fkk23 fkk24 kk25 kk26 fkk25 fkk26))
  clear k1 kp
  go_wp2_with fail
  (refine (l3Divided_b _ b1 b2 m1 e1 e2).mono ?_; rintro e w3 ⟨u1, u2, rfl, hb3⟩; have hz3 := hb3.size; (repeat (first | rw [World.size_alloc] at hz3 | rw [World.size_setCell] at hz3 | rw [World.size_drew] at hz3)); have pp := C2.K hb3 (b := w.heap.size) (x := _) (y := _) (c2A); obtain ⟨kk37, kk38⟩ := pp; have pp := C2.K hb3 (b := w.heap.size + 1 + 1) (x := _) (y := _) (c2A); obtain ⟨kk39, kk40⟩ := pp; have pp := T2.K hb3 (b := w.heap.size + 1 + 1 + 1) (x := _) (y := _) (t2A); obtain ⟨kk41, kk42, fkk41, fkk42⟩ := pp; have pp := T2.K hb3 (b := w.heap.size + 1 + 1 + 1 + 1) (x := _) (y := _) (t2A); obtain ⟨kk43, kk44, fkk43, fkk44⟩ := pp; (try clear kk27 kk28 kk29 kk30 kk31 kk32 kk33 kk34 fkk33 fkk34 kk35 kk36 fkk35 fkk36))
  clear m1 e1 e2
  go_wp2_with fail
  (refine (l3Divided_b _ b1 b2 m2 e3 e4).mono ?_; rintro e w4 ⟨u3, u4, rfl, hb4⟩; have hz4 := hb4.size; (repeat (first | rw [World.size_alloc] at hz4 | rw [World.size_setCell] at hz4 | rw [World.size_drew] at hz4)); have pp := C2.K hb4 (b := w3.heap.size + 1) (x := _) (y := _) (c2A); obtain ⟨kk45, kk46⟩ := pp; have pp := T2.K hb4 (b := w.heap.size + 1 + 1 + 1) (x := _) (y := _) (t2A); obtain ⟨kk47, kk48, fkk47, fkk48⟩ := pp; have pp := T2.K hb4 (b := w.heap.size + 1 + 1 + 1 + 1) (x := _) (y := _) (t2A); obtain ⟨kk49, kk50, fkk49, fkk50⟩ := pp; (try clear kk37 kk38 kk39 kk40 kk41 kk42 fkk41 fkk42 kk43 kk44 fkk43 fkk44))
  clear m2 e3 e4 b1 b2
  go_wp2_with fail
  go_region
  all_goals go_wp2_with fail
  all_goals refine bodyPost_ret (v := .tuple #[.agg #[.int .i64 p, .int .i64 q], .agg #[.int .i64 r, .int .i64 s], .bool true]) (by simp [results, Try.results24, go_sem, *]) rfl ?_; exact ⟨rfl, blA⟩
set_option maxHeartbeats 4000000 in
theorem sCarriersOf_v {e f g h x y u v : Int} {o : Bool} (w : World) (k : CrIs e f g h o x y u v) : Calls Try.prog 29 #[.agg #[.int .i64 e, .int .i64 f], .agg #[.int .i64 g, .int .i64 h]] w fun e' w' => e' = .returned (.tuple #[.agg #[.int .i64 x, .int .i64 y], .agg #[.int .i64 u, .int .i64 v], .bool o]) ∧ Below w.heap.size w w' := by
  cases kp : paO e f g h
  · obtain rfl : o = false := by rw [k.is, kp]
    obtain ⟨rfl, rfl, rfl, rfl⟩ := k.no rfl
    clear k
    go_enter Try.func29, Try.ntmps29
    go_wp2_with fail
    (refine (sPairOk_v _ kp).mono ?_; rintro e w1 ⟨rfl, hb1⟩; have hz1 := hb1.size; (repeat (first | rw [World.size_alloc] at hz1 | rw [World.size_setCell] at hz1 | rw [World.size_drew] at hz1)); have pp := T2.K hb1 (b := w.heap.size + 1 + 1) (x := _) (y := _) (t2A); obtain ⟨kk1, kk2, fkk1, fkk2⟩ := pp; have pp := T2.K hb1 (b := w.heap.size + 1 + 1 + 1) (x := _) (y := _) (t2A); obtain ⟨kk3, kk4, fkk3, fkk4⟩ := pp)
    go_wp2_with fail
    refine bodyPost_ret (v := .tuple #[.agg #[.int .i64 0, .int .i64 0], .agg #[.int .i64 0, .int .i64 0], .bool false]) (by simp [results, Try.results29, go_sem, *]) rfl ?_; exact ⟨rfl, blA⟩
  obtain rfl : o = true := by rw [k.is, kp]
  obtain ⟨j1, j2⟩ := k.val rfl
  clear k
  have k0 : gok 0 0 = true := by decide
  have k1 : gok 1 0 = true := by decide
  go_enter Try.func29, Try.ntmps29
  go_wp2_with fail
  (refine (sPairOk_v _ kp).mono ?_; rintro e w1 ⟨rfl, hb1⟩; have hz1 := hb1.size; (repeat (first | rw [World.size_alloc] at hz1 | rw [World.size_setCell] at hz1 | rw [World.size_drew] at hz1)); have pp := C2.K hb1 (b := w.heap.size) (x := _) (y := _) (c2A); obtain ⟨kk5, kk6⟩ := pp; have pp := C2.K hb1 (b := w.heap.size + 1) (x := _) (y := _) (c2A); obtain ⟨kk7, kk8⟩ := pp; have pp := T2.K hb1 (b := w.heap.size + 1 + 1) (x := _) (y := _) (t2A); obtain ⟨kk9, kk10, fkk9, fkk10⟩ := pp; have pp := T2.K hb1 (b := w.heap.size + 1 + 1 + 1) (x := _) (y := _) (t2A); obtain ⟨kk11, kk12, fkk11, fkk12⟩ := pp; (try clear kk1 kk2 fkk1 fkk2 kk3 kk4 fkk3 fkk4))
  go_upto_region 3 with fail
  refine wp_name ?_
  intro w2 hb2
  (have hz2 := hb2.size; (repeat (first | rw [World.size_alloc] at hz2 | rw [World.size_setCell] at hz2 | rw [World.size_drew] at hz2)); have pp := C2.K hb2 (b := w.heap.size) (x := _) (y := _) (c2A); obtain ⟨kk13, kk14⟩ := pp; have pp := C2.K hb2 (b := w.heap.size + 1) (x := _) (y := _) (c2A); obtain ⟨kk15, kk16⟩ := pp; have pp := T2.K hb2 (b := w.heap.size + 1 + 1) (x := _) (y := _) (t2A); obtain ⟨kk17, kk18, fkk17, fkk18⟩ := pp; have pp := T2.K hb2 (b := w.heap.size + 1 + 1 + 1) (x := _) (y := _) (t2A); obtain ⟨kk19, kk20, fkk19, fkk20⟩ := pp; (try clear kk5 kk6 kk7 kk8 kk9 kk10 fkk9 fkk10 kk11 kk12 fkk11 fkk12))
  (go_region_held3 (fun w' => w'.cell? ⟨w.heap.size, 0, none⟩ = some (.int .i64 (e)) ∧ w'.cell? ⟨w.heap.size, 1, none⟩ = some (.int .i64 (f)) ∧ w'.cell? ⟨w.heap.size + 1, 0, none⟩ = some (.int .i64 (g)) ∧ w'.cell? ⟨w.heap.size + 1, 1, none⟩ = some (.int .i64 (h))) (first | (go_keep; done) | ((try dsimp only); refine ⟨?_, ?_, ?_, ?_⟩ <;> exact kcA)) (first | (go_at_call 45; obtain ⟨q0, q1, q2, q3⟩ := ‹_ ∧ _ ∧ _ ∧ _›; refine (sl9Join_j _ (by first | exact k1 | exact k0) (by first | exact k0 | exact k1) kp (by first | exact j1 | exact j2)).mono ?_; rintro e w3 ⟨rfl, hb3⟩; have hz3 := hb3.size; (repeat (first | rw [World.size_alloc] at hz3 | rw [World.size_setCell] at hz3 | rw [World.size_drew] at hz3)); have kk21 := keep hb3 q0; have kk22 := keep hb3 q1; have kk23 := keep hb3 q2; have kk24 := keep hb3 q3; obtain ⟨hc3, hf3⟩ := bcell hb3; have pp := T2.K hb3 (b := w.heap.size + 1 + 1) (x := _) (y := _) (t2A); obtain ⟨kk25, kk26, fkk25, fkk26⟩ := pp; have pp := T2.K hb3 (b := w.heap.size + 1 + 1 + 1) (x := _) (y := _) (t2A); obtain ⟨kk27, kk28, fkk27, fkk28⟩ := pp; clear q0 q1 q2 q3)); (try clear kk13 kk14 kk15 kk16 kk17 kk18 fkk17 fkk18 kk19 kk20 fkk19 fkk20))
  all_goals go_wp2_with fail
  all_goals refine bodyPost_ret (v := .tuple #[.agg #[.int .i64 x, .int .i64 y], .agg #[.int .i64 u, .int .i64 v], .bool true]) (by simp [results, Try.results29, go_sem, *]) rfl ?_; exact ⟨rfl, blA⟩
end Go.Proofs.Ytggebkgfldmipaa
