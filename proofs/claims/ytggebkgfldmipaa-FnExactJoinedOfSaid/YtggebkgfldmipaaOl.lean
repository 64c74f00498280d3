import Derived.Test.YtggebkgfldmipaaOk
import Derived.Test.YtggebkgfldmipaaJp
import Derived.Test.YtggebkgfldmipaaHx
import Derived.Test.YtggebkgfldmipaaL
import Derived.Deep.RegionHeld3
import Derived.Deep.DeepCutAuto
namespace Go.Proofs.Ytggebkgfldmipaa
open Go Go.RowKit
attribute [local go_sem] World.cell?_alloc_some cell?_alloc2_some cell?_alloc3_some cell?_alloc4_some frozen?_alloc_some frozen?_alloc2_some frozen?_alloc3_some World.cell?_setCell_far new_ne0 new_ne1 new_ne2 new_ne3 lt2 lt3 lt4 lt5 lt6 lt7 lt8 lt9
attribute [local go_sem ↓] eqG neG

/-- A product of which just the four products are bounded. -/
theorem igTimes_x {a b c d x y : Int} (w : World) (h1 : -1000000000000000000 ≤ a * c) (h2 : a * c ≤ 1000000000000000000) (h3 : -1000000000000000000 ≤ b * d) (h4 : b * d ≤ 1000000000000000000) (h5 : -1000000000000000000 ≤ a * d) (h6 : a * d ≤ 1000000000000000000) (h7 : -1000000000000000000 ≤ b * c) (h8 : b * c ≤ 1000000000000000000) (hx : a * c - b * d = x) (hy : a * d + b * c = y) :
    Calls Try.prog 48 #[.agg #[.int .i64 a, .int .i64 b], .agg #[.int .i64 c, .int .i64 d]] w fun e w' => e = .returned (.agg #[.int .i64 x, .int .i64 y]) ∧ Below w.heap.size w w' := by
  subst hx hy
  refine (igTimes a b c d w).mono ?_
  rintro e w' ⟨rfl, hb⟩
  refine ⟨?_, hb⟩
  rw [IntWalk.wrap64_in (a * c) (by omega), IntWalk.wrap64_in (b * d) (by omega), IntWalk.wrap64_in (a * d) (by omega), IntWalk.wrap64_in (b * c) (by omega), IntWalk.wrap64_in _ (by omega), IntWalk.wrap64_in _ (by omega)]
theorem igMinus_x {a b x y : Int} (w : World) (h1 : -4000000000000000000 ≤ a) (h2 : a ≤ 4000000000000000000) (h3 : -4000000000000000000 ≤ b) (h4 : b ≤ 4000000000000000000) (hx : -a = x) (hy : -b = y) : Calls Try.prog 82 #[.agg #[.int .i64 a, .int .i64 b]] w fun e w' => e = .returned (.agg #[.int .i64 x, .int .i64 y]) ∧ Below w.heap.size w w' := by
  subst hx hy; exact igMinus a b w h1 h2 h3 h4
theorem igPlus_x {a b c d x y : Int} (w : World) (ha1 : -1000000000000000000 ≤ a) (ha2 : a ≤ 1000000000000000000) (hb1 : -1000000000000000000 ≤ b) (hb2 : b ≤ 1000000000000000000) (hc1 : -1000000000000000000 ≤ c) (hc2 : c ≤ 1000000000000000000) (hd1 : -1000000000000000000 ≤ d) (hd2 : d ≤ 1000000000000000000) (hx : a + c = x) (hy : b + d = y) : Calls Try.prog 71 #[.agg #[.int .i64 a, .int .i64 b], .agg #[.int .i64 c, .int .i64 d]] w fun e w' => e = .returned (.agg #[.int .i64 x, .int .i64 y]) ∧ Below w.heap.size w w' := by
  subst hx hy
  refine (igPlus a b c d w).mono ?_
  rintro e w' ⟨rfl, hb⟩
  refine ⟨?_, hb⟩
  rw [IntWalk.wrap64_in _ (by omega), IntWalk.wrap64_in _ (by omega)]

set_option maxHeartbeats 8000000 in
theorem sumLess {A A' B B' p q C C' D D' U U' V V' : Int} (w : World) (p1 : -2500 ≤ p) (p2 : p ≤ 2500) (q1 : -2500 ≤ q) (q2 : q ≤ 2500) (hA : Bd A) (hA' : Bd A') (hB : Bd B) (hB' : Bd B') (hC : Bd C) (hC' : Bd C') (hD : Bd D) (hD' : Bd D')
    (e1 : p * C - q * C' = U) (e2 : p * C' + q * C = U') (e3 : p * D - q * D' = V) (e4 : p * D' + q * D = V') :
    Calls Try.prog 86 #[.agg #[.int .i64 A, .int .i64 A', .int .i64 B, .int .i64 B'], .agg #[.int .i64 p, .int .i64 q], .agg #[.int .i64 C, .int .i64 C', .int .i64 D, .int .i64 D']] w fun e w' => e = .returned (.agg #[.int .i64 (A - U), .int .i64 (A' - U'), .int .i64 (B - V), .int .i64 (B' - V')]) ∧ Below w.heap.size w w' := by
  obtain ⟨c1, c2, c3, c4, c5, c6, c7, c8⟩ := st_bd p1 p2 q1 q2 hC hC'
  obtain ⟨d1, d2, d3, d4, d5, d6, d7, d8⟩ := st_bd p1 p2 q1 q2 hD hD'
  obtain ⟨a1, a2⟩ := hA
  obtain ⟨a3, a4⟩ := hA'
  obtain ⟨b1, b2⟩ := hB
  obtain ⟨b3, b4⟩ := hB'
  have u1 : -2000000000000000 ≤ U ∧ U ≤ 2000000000000000 := by omega
  have u2 : -2000000000000000 ≤ U' ∧ U' ≤ 2000000000000000 := by omega
  have v1 : -2000000000000000 ≤ V ∧ V ≤ 2000000000000000 := by omega
  have v2 : -2000000000000000 ≤ V' ∧ V' ≤ 2000000000000000 := by omega
  have s1 : A + -U = A - U := by omega
  have s2 : A' + -U' = A' - U' := by omega
  have s3 : B + -V = B - V := by omega
  have s4 : B' + -V' = B' - V' := by omega
  go_enter Try.func86, Try.ntmps86
  go_upto_region 1 with fail
  refine wp_name ?_
  intro w0 hb0
  (have hz0 := hb0.size; (repeat (first | rw [World.size_alloc] at hz0 | rw [World.size_setCell] at hz0 | rw [World.size_drew] at hz0)); have kk1 := keep hb0 (a := ⟨w.heap.size, 0, none⟩) (v := _) (kcA); have kk2 := keep hb0 (a := ⟨w.heap.size, 1, none⟩) (v := _) (kcA); have kk3 := keep hb0 (a := ⟨w.heap.size, 2, none⟩) (v := _) (kcA); have kk4 := keep hb0 (a := ⟨w.heap.size, 3, none⟩) (v := _) (kcA); have pp := C2.K hb0 (b := w.heap.size + 1) (x := _) (y := _) (c2A); obtain ⟨kk5, kk6⟩ := pp; have kk7 := keep hb0 (a := ⟨w.heap.size + 1 + 1, 0, none⟩) (v := _) (kcA); have kk8 := keep hb0 (a := ⟨w.heap.size + 1 + 1, 1, none⟩) (v := _) (kcA); have kk9 := keep hb0 (a := ⟨w.heap.size + 1 + 1, 2, none⟩) (v := _) (kcA); have kk10 := keep hb0 (a := ⟨w.heap.size + 1 + 1, 3, none⟩) (v := _) (kcA); have kk11 := keep hb0 (a := ⟨w.heap.size + 1 + 1 + 1, 0, none⟩) (v := _) (kcA); have fkk11 := keepF hb0 (a := ⟨w.heap.size + 1 + 1 + 1, 0, none⟩) (v := _) (kcA) (kfA); have kk12 := keep hb0 (a := ⟨w.heap.size + 1 + 1 + 1, 1, none⟩) (v := _) (kcA); have fkk12 := keepF hb0 (a := ⟨w.heap.size + 1 + 1 + 1, 1, none⟩) (v := _) (kcA) (kfA); have kk13 := keep hb0 (a := ⟨w.heap.size + 1 + 1 + 1, 2, none⟩) (v := _) (kcA); have fkk13 := keepF hb0 (a := ⟨w.heap.size + 1 + 1 + 1, 2, none⟩) (v := _) (kcA) (kfA); have kk14 := keep hb0 (a := ⟨w.heap.size + 1 + 1 + 1, 3, none⟩) (v := _) (kcA); have fkk14 := keepF hb0 (a := ⟨w.heap.size + 1 + 1 + 1, 3, none⟩) (v := _) (kcA) (kfA))
  (go_region_held3 (fun w' => w'.cell? ⟨w.heap.size, 0, none⟩ = some (.int .i64 (A)) ∧ w'.cell? ⟨w.heap.size, 1, none⟩ = some (.int .i64 (A')) ∧ w'.cell? ⟨w.heap.size, 2, none⟩ = some (.int .i64 (B)) ∧ w'.cell? ⟨w.heap.size, 3, none⟩ = some (.int .i64 (B')) ∧ w'.cell? ⟨w.heap.size + 1, 0, none⟩ = some (.int .i64 (p)) ∧ w'.cell? ⟨w.heap.size + 1, 1, none⟩ = some (.int .i64 (q)) ∧ w'.cell? ⟨w.heap.size + 1 + 1, 0, none⟩ = some (.int .i64 (C)) ∧ w'.cell? ⟨w.heap.size + 1 + 1, 1, none⟩ = some (.int .i64 (C')) ∧ w'.cell? ⟨w.heap.size + 1 + 1, 2, none⟩ = some (.int .i64 (D)) ∧ w'.cell? ⟨w.heap.size + 1 + 1, 3, none⟩ = some (.int .i64 (D'))) (first | (go_keep; done) | ((try dsimp only); refine ⟨?_, ?_, ?_, ?_, ?_, ?_, ?_, ?_, ?_, ?_⟩ <;> exact kcA)) (first | (go_at_call 48; obtain ⟨q0, q1, q2, q3, q4, q5, q6, q7, q8, q9⟩ := ‹_ ∧ _ ∧ _ ∧ _ ∧ _ ∧ _ ∧ _ ∧ _ ∧ _ ∧ _›; refine (igTimes_x _ (by omega) (by omega) (by omega) (by omega) (by omega) (by omega) (by omega) (by omega) (by first | exact e1 | exact e3) (by first | exact e2 | exact e4)).mono ?_; rintro e w7 ⟨rfl, hb7⟩; have hz7 := hb7.size; (repeat (first | rw [World.size_alloc] at hz7 | rw [World.size_setCell] at hz7 | rw [World.size_drew] at hz7)); have kk15 := keep hb7 q0; have kk16 := keep hb7 q1; have kk17 := keep hb7 q2; have kk18 := keep hb7 q3; have kk19 := keep hb7 q4; have kk20 := keep hb7 q5; have kk21 := keep hb7 q6; have kk22 := keep hb7 q7; have kk23 := keep hb7 q8; have kk24 := keep hb7 q9; obtain ⟨hc7, hf7⟩ := bcell hb7; have kk25 := keep hb7 (a := ⟨w.heap.size + 1 + 1 + 1, 0, none⟩) (v := _) (kcA); have fkk25 := keepF hb7 (a := ⟨w.heap.size + 1 + 1 + 1, 0, none⟩) (v := _) (kcA) (kfA); have kk26 := keep hb7 (a := ⟨w.heap.size + 1 + 1 + 1, 1, none⟩) (v := _) (kcA); have fkk26 := keepF hb7 (a := ⟨w.heap.size + 1 + 1 + 1, 1, none⟩) (v := _) (kcA) (kfA); have kk27 := keep hb7 (a := ⟨w.heap.size + 1 + 1 + 1, 2, none⟩) (v := _) (kcA); have fkk27 := keepF hb7 (a := ⟨w.heap.size + 1 + 1 + 1, 2, none⟩) (v := _) (kcA) (kfA); have kk28 := keep hb7 (a := ⟨w.heap.size + 1 + 1 + 1, 3, none⟩) (v := _) (kcA); have fkk28 := keepF hb7 (a := ⟨w.heap.size + 1 + 1 + 1, 3, none⟩) (v := _) (kcA) (kfA); clear q0 q1 q2 q3 q4 q5 q6 q7 q8 q9) | (go_at_call 82; obtain ⟨q0, q1, q2, q3, q4, q5, q6, q7, q8, q9⟩ := ‹_ ∧ _ ∧ _ ∧ _ ∧ _ ∧ _ ∧ _ ∧ _ ∧ _ ∧ _›; refine (igMinus_x _ (by omega) (by omega) (by omega) (by omega) rfl rfl).mono ?_; rintro e w8 ⟨rfl, hb8⟩; have hz8 := hb8.size; (repeat (first | rw [World.size_alloc] at hz8 | rw [World.size_setCell] at hz8 | rw [World.size_drew] at hz8)); have kk29 := keep hb8 q0; have kk30 := keep hb8 q1; have kk31 := keep hb8 q2; have kk32 := keep hb8 q3; have kk33 := keep hb8 q4; have kk34 := keep hb8 q5; have kk35 := keep hb8 q6; have kk36 := keep hb8 q7; have kk37 := keep hb8 q8; have kk38 := keep hb8 q9; obtain ⟨hc8, hf8⟩ := bcell hb8; have kk39 := keep hb8 (a := ⟨w.heap.size + 1 + 1 + 1, 0, none⟩) (v := _) (kcA); have fkk39 := keepF hb8 (a := ⟨w.heap.size + 1 + 1 + 1, 0, none⟩) (v := _) (kcA) (kfA); have kk40 := keep hb8 (a := ⟨w.heap.size + 1 + 1 + 1, 1, none⟩) (v := _) (kcA); have fkk40 := keepF hb8 (a := ⟨w.heap.size + 1 + 1 + 1, 1, none⟩) (v := _) (kcA) (kfA); have kk41 := keep hb8 (a := ⟨w.heap.size + 1 + 1 + 1, 2, none⟩) (v := _) (kcA); have fkk41 := keepF hb8 (a := ⟨w.heap.size + 1 + 1 + 1, 2, none⟩) (v := _) (kcA) (kfA); have kk42 := keep hb8 (a := ⟨w.heap.size + 1 + 1 + 1, 3, none⟩) (v := _) (kcA); have fkk42 := keepF hb8 (a := ⟨w.heap.size + 1 + 1 + 1, 3, none⟩) (v := _) (kcA) (kfA); clear q0 q1 q2 q3 q4 q5 q6 q7 q8 q9) | (go_at_call 71; obtain ⟨q0, q1, q2, q3, q4, q5, q6, q7, q8, q9⟩ := ‹_ ∧ _ ∧ _ ∧ _ ∧ _ ∧ _ ∧ _ ∧ _ ∧ _ ∧ _›; refine (igPlus_x _ (by omega) (by omega) (by omega) (by omega) (by omega) (by omega) (by omega) (by omega) (by first | exact s1 | exact s3) (by first | exact s2 | exact s4)).mono ?_; rintro e w9 ⟨rfl, hb9⟩; have hz9 := hb9.size; (repeat (first | rw [World.size_alloc] at hz9 | rw [World.size_setCell] at hz9 | rw [World.size_drew] at hz9)); have kk43 := keep hb9 q0; have kk44 := keep hb9 q1; have kk45 := keep hb9 q2; have kk46 := keep hb9 q3; have kk47 := keep hb9 q4; have kk48 := keep hb9 q5; have kk49 := keep hb9 q6; have kk50 := keep hb9 q7; have kk51 := keep hb9 q8; have kk52 := keep hb9 q9; obtain ⟨hc9, hf9⟩ := bcell hb9; have kk53 := keep hb9 (a := ⟨w.heap.size + 1 + 1 + 1, 0, none⟩) (v := _) (kcA); have fkk53 := keepF hb9 (a := ⟨w.heap.size + 1 + 1 + 1, 0, none⟩) (v := _) (kcA) (kfA); have kk54 := keep hb9 (a := ⟨w.heap.size + 1 + 1 + 1, 1, none⟩) (v := _) (kcA); have fkk54 := keepF hb9 (a := ⟨w.heap.size + 1 + 1 + 1, 1, none⟩) (v := _) (kcA) (kfA); have kk55 := keep hb9 (a := ⟨w.heap.size + 1 + 1 + 1, 2, none⟩) (v := _) (kcA); have fkk55 := keepF hb9 (a := ⟨w.heap.size + 1 + 1 + 1, 2, none⟩) (v := _) (kcA) (kfA); have kk56 := keep hb9 (a := ⟨w.heap.size + 1 + 1 + 1, 3, none⟩) (v := _) (kcA); have fkk56 := keepF hb9 (a := ⟨w.heap.size + 1 + 1 + 1, 3, none⟩) (v := _) (kcA) (kfA); clear q0 q1 q2 q3 q4 q5 q6 q7 q8 q9)); (try clear kk1 kk2 kk3 kk4 kk5 kk6 kk7 kk8 kk9 kk10 kk11 fkk11 kk12 fkk12 kk13 fkk13 kk14 fkk14))
  all_goals go_wp2_with fail
  all_goals refine bodyPost_ret (v := .agg #[.int .i64 (A - U), .int .i64 (A' - U'), .int .i64 (B - V), .int .i64 (B' - V')]) (by simp [results, Try.results86, go_sem, *]) rfl ?_; exact ⟨rfl, blA⟩
end Go.Proofs.Ytggebkgfldmipaa
