import Derived.Test.YtggebkgfldmipaaNd
import Derived.Test.YtggebkgfldmipaaNe
import Derived.Test.YtggebkgfldmipaaNg
import Derived.Test.YtggebkgfldmipaaUs
import Derived.Test.YtggebkgfldmipaaL
import Derived.Test.YtggebkgfldmipaaM
import Derived.Test.YtggebkgfldmipaaR
import Derived.BigRegion
namespace Go.Proofs.Ytggebkgfldmipaa
open Go Go.RowKit
attribute [local go_sem] World.cell?_alloc_some cell?_alloc2_some cell?_alloc3_some cell?_alloc4_some frozen?_alloc_some frozen?_alloc2_some frozen?_alloc3_some World.cell?_setCell_far new_ne0 new_ne1 new_ne2 new_ne3 lt2 lt3 lt4 lt5 lt6 lt7 lt8 lt9
attribute [local go_sem ↓] eqG neG
attribute [local go_sem] cell?_alloc_lt frozen?_alloc_lt lt10

/-- What the law of PartedOf asks of a product. -/
theorem pt_tell {a b c d e f g h x y t1 t2 t3 t4 u1 u2 v1 v2 : Int} {can t f' h' : Bool} (k1 : gok a b = true) (k3 : paO e f g h = true) (m1 : MuIs a b c d (e * g - f * h) (e * h + f * g) can x y) (m2 : PtIs x y e f g h t t1 t2 t3 t4) (m3 : MuIs a b c d e f f' u1 u2) (m4 : MuIs a b c d g h h' v1 v2) :
    can = true → t = true ∧ f' = true ∧ h' = true ∧ t1 = u1 ∧ t2 = u2 ∧ t3 = v1 ∧ t4 = v2 := by
  rintro rfl
  obtain ⟨a1, hv⟩ := muv_val.1 m1
  obtain ⟨-, k2, hM⟩ := ad_ok a1
  obtain ⟨q1, q2, -, -⟩ := pa_is k3
  rw [rs_mu (md_nG hM).1] at hv
  obtain ⟨p1, p2⟩ := pt_mul k3 hv
  obtain rfl : t = true := by rw [m2.is, rs_gok hM hv, k3]; rfl
  obtain rfl : f' = true := by rw [← m3.1]; unfold adO; rw [k1, k2, q1]; rfl
  obtain rfl : h' = true := by rw [← m4.1]; unfold adO; rw [k1, k2, q2]; rfl
  obtain ⟨-, w3⟩ := muv_val.1 m3
  obtain ⟨-, w4⟩ := muv_val.1 m4
  rw [rs_mu (md_nG q1).1] at w3
  rw [rs_mu (md_nG q2).1] at w4
  obtain ⟨s1, s2⟩ := m2.val rfl
  have j1 := (s1.symm.trans p1).trans w3
  have j2 := (s2.symm.trans p2).trans w4
  injection j1 with i1 i2
  injection j2 with i3 i4
  exact ⟨rfl, rfl, rfl, i1, i2, i3, i4⟩
set_option maxRecDepth 100000 in
set_option maxHeartbeats 16000000 in
theorem walkFnPartedOf (a0 : Option Addr) (len0 cap0 : Nat) (z0 : List Int) (a1 : Option Addr) (len1 cap1 : Nat) (z1 : List Int) (w : World) (r0 : IsRow .u8 w a0 len0 cap0 z0) (r1 : IsRow .u8 w a1 len1 cap1 z1) :
    Calls Try.prog 5 #[.slice a0 len0 cap0, .slice a1 len1 cap1] w fun e w' => e = .returned (.bool true) ∧ Below w.heap.size w w' := by
  have H0 := Lib.hid r0
  have H1 := Lib.hid r1
  clear r0 r1
  by_cases hl0 : 1048576 < len0
  · go_enter Try.func5, Try.ntmps5
    go_wp2_with fail
    go_returns
    exact ⟨rfl, blA⟩
  by_cases hl1 : 1048576 < len1
  · go_enter Try.func5, Try.ntmps5
    go_wp2_with fail
    go_returns
    exact ⟨rfl, blA⟩
  go_enter Try.func5, Try.ntmps5
  go_wp2_with fail
  (refine (drawPartedOf a0 len0 cap0 z0 _ H0.out).mono ?_; rintro e w1 ⟨a, b, e, f, g, h, rfl, hb1⟩; have hz1 := hb1.size; (repeat (first | rw [World.size_alloc] at hz1 | rw [World.size_setCell] at hz1 | rw [World.size_drew] at hz1)))
  have H1' := Lib.hid (H1.out.below hb1)
  clear H0 H1
  go_wp2_with fail
  obtain ⟨o, p, q, r, s, hr⟩ := pt_is a b e f g h
  cases o
  · obtain ⟨rfl, rfl, rfl, rfl⟩ := hr.no rfl
    (refine (iPartedOf_v _ hr).mono ?_; rintro e w2 ⟨rfl, hb2⟩; have hz2 := hb2.size; (repeat (first | rw [World.size_alloc] at hz2 | rw [World.size_setCell] at hz2 | rw [World.size_drew] at hz2)); have pp := C2.K hb2 (b := w1.heap.size) (x := _) (y := _) (c2A); obtain ⟨kk1, kk2⟩ := pp; have pp := C2.K hb2 (b := w1.heap.size + 1) (x := _) (y := _) (c2A); obtain ⟨kk3, kk4⟩ := pp; have pp := C2.K hb2 (b := w1.heap.size + 1 + 1) (x := _) (y := _) (c2A); obtain ⟨kk5, kk6⟩ := pp)
    go_wp2_with fail
    (refine (sPartedOf_v _ hr).mono ?_; rintro e w3 ⟨rfl, hb3⟩; have hz3 := hb3.size; (repeat (first | rw [World.size_alloc] at hz3 | rw [World.size_setCell] at hz3 | rw [World.size_drew] at hz3)); have pp := C2.K hb3 (b := w2.heap.size) (x := _) (y := _) (c2A); obtain ⟨kk7, kk8⟩ := pp; have pp := C2.K hb3 (b := w2.heap.size + 1) (x := _) (y := _) (c2A); obtain ⟨kk9, kk10⟩ := pp; (try clear kk1 kk2 kk3 kk4 kk5 kk6))
    clear hr
    go_wp2_with fail
    (refine (alive _).mono ?_; rintro e w4 ⟨rfl, hb4⟩; have hz4 := hb4.size; (repeat (first | rw [World.size_alloc] at hz4 | rw [World.size_setCell] at hz4 | rw [World.size_drew] at hz4)); (try clear kk7 kk8 kk9 kk10))
    go_wp2_with fail
    go_returns
    exact ⟨rfl, blA⟩
  obtain ⟨k1, k3⟩ := pt_all hr rfl
  obtain ⟨e1, e2⟩ := hr.val rfl
  have ht := pa_ti k3
  obtain ⟨x, y, hx⟩ : ∃ x y, rs (e * g - f * h, e * h + f * g) (a, b) = (x, y) := ⟨_, _, rfl⟩
  have hj := pt_law k3 e1 e2 hx
  have hM := (pa_is k3).2.2.2
  have hrs := rs_mk hx k1 (md_is hM).1 (md_nG hM).1
  have K1 := Lib.hid k1
  have K3 := Lib.hid k3
  obtain ⟨X, hX⟩ : ∃ X, e * g - f * h = X := ⟨_, rfl⟩
  obtain ⟨Y, hY⟩ : ∃ Y, e * h + f * g = Y := ⟨_, rfl⟩
  rw [hX, hY] at ht hrs
  have HX := Lib.hid hX
  have HY := Lib.hid hY
  clear e1 e2 hx hM k1 k3 hX hY
  (refine (iPartedOf_v _ hr).mono ?_; rintro e w2 ⟨rfl, hb2⟩; have hz2 := hb2.size; (repeat (first | rw [World.size_alloc] at hz2 | rw [World.size_setCell] at hz2 | rw [World.size_drew] at hz2)); have pp := C2.K hb2 (b := w1.heap.size) (x := _) (y := _) (c2A); obtain ⟨kk11, kk12⟩ := pp; have pp := C2.K hb2 (b := w1.heap.size + 1) (x := _) (y := _) (c2A); obtain ⟨kk13, kk14⟩ := pp; have pp := C2.K hb2 (b := w1.heap.size + 1 + 1) (x := _) (y := _) (c2A); obtain ⟨kk15, kk16⟩ := pp)
  go_wp2_with fail
  (refine (sPartedOf_v _ hr).mono ?_; rintro e w3 ⟨rfl, hb3⟩; have hz3 := hb3.size; (repeat (first | rw [World.size_alloc] at hz3 | rw [World.size_setCell] at hz3 | rw [World.size_drew] at hz3)); have pp := C2.K hb3 (b := w1.heap.size) (x := _) (y := _) (c2A); obtain ⟨kk17, kk18⟩ := pp; have pp := C2.K hb3 (b := w1.heap.size + 1) (x := _) (y := _) (c2A); obtain ⟨kk19, kk20⟩ := pp; have pp := C2.K hb3 (b := w1.heap.size + 1 + 1) (x := _) (y := _) (c2A); obtain ⟨kk21, kk22⟩ := pp; have pp := C2.K hb3 (b := w2.heap.size) (x := _) (y := _) (c2A); obtain ⟨kk23, kk24⟩ := pp; have pp := C2.K hb3 (b := w2.heap.size + 1) (x := _) (y := _) (c2A); obtain ⟨kk25, kk26⟩ := pp; (try clear kk11 kk12 kk13 kk14 kk15 kk16))
  clear hr
  go_wp2_with fail
  (refine (iTimesOf_v _ ht).mono ?_; rintro e w4 ⟨rfl, hb4⟩; have hz4 := hb4.size; (repeat (first | rw [World.size_alloc] at hz4 | rw [World.size_setCell] at hz4 | rw [World.size_drew] at hz4)); have pp := C2.K hb4 (b := w1.heap.size) (x := _) (y := _) (c2A); obtain ⟨kk27, kk28⟩ := pp; have pp := C2.K hb4 (b := w1.heap.size + 1) (x := _) (y := _) (c2A); obtain ⟨kk29, kk30⟩ := pp; have pp := C2.K hb4 (b := w1.heap.size + 1 + 1) (x := _) (y := _) (c2A); obtain ⟨kk31, kk32⟩ := pp; have pp := C2.K hb4 (b := w2.heap.size) (x := _) (y := _) (c2A); obtain ⟨kk33, kk34⟩ := pp; have pp := C2.K hb4 (b := w2.heap.size + 1) (x := _) (y := _) (c2A); obtain ⟨kk35, kk36⟩ := pp; (try clear kk17 kk18 kk19 kk20 kk21 kk22 kk23 kk24 kk25 kk26))
  clear ht
  go_wp2_with fail
  (refine (iJoinedOf_v _ hj).mono ?_; rintro e w5 ⟨rfl, hb5⟩; have hz5 := hb5.size; (repeat (first | rw [World.size_alloc] at hz5 | rw [World.size_setCell] at hz5 | rw [World.size_drew] at hz5)); have pp := C2.K hb5 (b := w1.heap.size) (x := _) (y := _) (c2A); obtain ⟨kk37, kk38⟩ := pp; have pp := C2.K hb5 (b := w1.heap.size + 1) (x := _) (y := _) (c2A); obtain ⟨kk39, kk40⟩ := pp; have pp := C2.K hb5 (b := w1.heap.size + 1 + 1) (x := _) (y := _) (c2A); obtain ⟨kk41, kk42⟩ := pp; have pp := C2.K hb5 (b := w4.heap.size) (x := _) (y := _) (c2A); obtain ⟨kk43, kk44⟩ := pp; (try clear kk27 kk28 kk29 kk30 kk31 kk32 kk33 kk34 kk35 kk36))
  clear hj
  go_wp2_with fail
  (refine (iRestOf_v _ hrs).mono ?_; rintro e w6 ⟨rfl, hb6⟩; have hz6 := hb6.size; (repeat (first | rw [World.size_alloc] at hz6 | rw [World.size_setCell] at hz6 | rw [World.size_drew] at hz6)); have pp := C2.K hb6 (b := w1.heap.size) (x := _) (y := _) (c2A); obtain ⟨kk45, kk46⟩ := pp; have pp := C2.K hb6 (b := w1.heap.size + 1) (x := _) (y := _) (c2A); obtain ⟨kk47, kk48⟩ := pp; have pp := C2.K hb6 (b := w1.heap.size + 1 + 1) (x := _) (y := _) (c2A); obtain ⟨kk49, kk50⟩ := pp; have pp := C2.K hb6 (b := w4.heap.size) (x := _) (y := _) (c2A); obtain ⟨kk51, kk52⟩ := pp; have pp := C2.K hb6 (b := w5.heap.size) (x := _) (y := _) (c2A); obtain ⟨kk53, kk54⟩ := pp; (try clear kk37 kk38 kk39 kk40 kk41 kk42 kk43 kk44))
  clear hrs
  go_wp2_with fail
  have R6 := Lib.hid (show IsRow .u8 w6 a1 len1 cap1 z1 from by have := H1'.out; (repeat (first | (with_reducible assumption) | (with_reducible apply IsRow.alloc) | (with_reducible apply IsRow.drew) | ((with_reducible apply IsRow.below); (focus (with_reducible assumption))))))
  (refine (drawMinusOf a1 len1 cap1 z1 _ (by first | exact R6.out | exact R6.out.alloc)).mono ?_; rintro e w7 ⟨c, d, rfl, hg7, hb7⟩; have hz7 := hb7.size; (repeat (first | rw [World.size_alloc] at hz7 | rw [World.size_setCell] at hz7 | rw [World.size_drew] at hz7)); have pp := C2.K hb7 (b := w1.heap.size) (x := _) (y := _) (c2A); obtain ⟨kk55, kk56⟩ := pp; have pp := C2.K hb7 (b := w1.heap.size + 1) (x := _) (y := _) (c2A); obtain ⟨kk57, kk58⟩ := pp; have pp := C2.K hb7 (b := w1.heap.size + 1 + 1) (x := _) (y := _) (c2A); obtain ⟨kk59, kk60⟩ := pp; have pp := C2.K hb7 (b := w4.heap.size) (x := _) (y := _) (c2A); obtain ⟨kk61, kk62⟩ := pp; have pp := C2.K hb7 (b := w5.heap.size) (x := _) (y := _) (c2A); obtain ⟨kk63, kk64⟩ := pp; have pp := C2.K hb7 (b := w6.heap.size) (x := _) (y := _) (c2A); obtain ⟨kk65, kk66⟩ := pp; (try clear kk45 kk46 kk47 kk48 kk49 kk50 kk51 kk52 kk53 kk54))
  clear hg7
  obtain ⟨can, u, v, m1⟩ := mu_is a b c d X Y
  obtain ⟨told, t1, t2, t3, t4, m2⟩ := pt_is u v e f g h
  obtain ⟨ff, e1, f1, m3⟩ := mu_is a b c d e f
  obtain ⟨hh, g1, h1, m4⟩ := mu_is a b c d g h
  have H8 := Lib.hid (pt_tell K1.out K3.out (by rw [HX.out, HY.out]; exact m1) m2 m3 m4)
  clear K1 K3 HX HY
  go_wp2_with fail
  (refine (iMultipliedBy_v _ m1).mono ?_; rintro e w8 ⟨rfl, hb8⟩; have hz8 := hb8.size; (repeat (first | rw [World.size_alloc] at hz8 | rw [World.size_setCell] at hz8 | rw [World.size_drew] at hz8)); have pp := C2.K hb8 (b := w1.heap.size) (x := _) (y := _) (c2A); obtain ⟨kk67, kk68⟩ := pp; have pp := C2.K hb8 (b := w1.heap.size + 1) (x := _) (y := _) (c2A); obtain ⟨kk69, kk70⟩ := pp; have pp := C2.K hb8 (b := w1.heap.size + 1 + 1) (x := _) (y := _) (c2A); obtain ⟨kk71, kk72⟩ := pp; have pp := C2.K hb8 (b := w5.heap.size) (x := _) (y := _) (c2A); obtain ⟨kk73, kk74⟩ := pp; have pp := C2.K hb8 (b := w6.heap.size) (x := _) (y := _) (c2A); obtain ⟨kk75, kk76⟩ := pp; have pp := C2.K hb8 (b := w7.heap.size) (x := _) (y := _) (c2A); obtain ⟨kk77, kk78⟩ := pp; (try clear kk55 kk56 kk57 kk58 kk59 kk60 kk61 kk62 kk63 kk64 kk65 kk66))
  clear m1
  go_wp2_with fail
  (refine (iPartedOf_v _ m2).mono ?_; rintro e w9 ⟨rfl, hb9⟩; have hz9 := hb9.size; (repeat (first | rw [World.size_alloc] at hz9 | rw [World.size_setCell] at hz9 | rw [World.size_drew] at hz9)); have pp := C2.K hb9 (b := w1.heap.size) (x := _) (y := _) (c2A); obtain ⟨kk79, kk80⟩ := pp; have pp := C2.K hb9 (b := w1.heap.size + 1) (x := _) (y := _) (c2A); obtain ⟨kk81, kk82⟩ := pp; have pp := C2.K hb9 (b := w1.heap.size + 1 + 1) (x := _) (y := _) (c2A); obtain ⟨kk83, kk84⟩ := pp; have pp := C2.K hb9 (b := w5.heap.size) (x := _) (y := _) (c2A); obtain ⟨kk85, kk86⟩ := pp; have pp := C2.K hb9 (b := w6.heap.size) (x := _) (y := _) (c2A); obtain ⟨kk87, kk88⟩ := pp; have pp := C2.K hb9 (b := w7.heap.size) (x := _) (y := _) (c2A); obtain ⟨kk89, kk90⟩ := pp; (try clear kk67 kk68 kk69 kk70 kk71 kk72 kk73 kk74 kk75 kk76 kk77 kk78))
  clear m2
  go_wp2_with fail
  (refine (iMultipliedBy_v _ m3).mono ?_; rintro e w10 ⟨rfl, hb10⟩; have hz10 := hb10.size; (repeat (first | rw [World.size_alloc] at hz10 | rw [World.size_setCell] at hz10 | rw [World.size_drew] at hz10)); have pp := C2.K hb10 (b := w1.heap.size) (x := _) (y := _) (c2A); obtain ⟨kk91, kk92⟩ := pp; have pp := C2.K hb10 (b := w1.heap.size + 1) (x := _) (y := _) (c2A); obtain ⟨kk93, kk94⟩ := pp; have pp := C2.K hb10 (b := w1.heap.size + 1 + 1) (x := _) (y := _) (c2A); obtain ⟨kk95, kk96⟩ := pp; have pp := C2.K hb10 (b := w5.heap.size) (x := _) (y := _) (c2A); obtain ⟨kk97, kk98⟩ := pp; have pp := C2.K hb10 (b := w6.heap.size) (x := _) (y := _) (c2A); obtain ⟨kk99, kk100⟩ := pp; have pp := C2.K hb10 (b := w7.heap.size) (x := _) (y := _) (c2A); obtain ⟨kk101, kk102⟩ := pp; have pp := C2.K hb10 (b := w9.heap.size) (x := _) (y := _) (c2A); obtain ⟨kk103, kk104⟩ := pp; have pp := C2.K hb10 (b := w9.heap.size + 1) (x := _) (y := _) (c2A); obtain ⟨kk105, kk106⟩ := pp; (try clear kk79 kk80 kk81 kk82 kk83 kk84 kk85 kk86 kk87 kk88 kk89 kk90))
  clear m3
  go_wp2_with fail
  (refine (iMultipliedBy_v _ m4).mono ?_; rintro e w11 ⟨rfl, hb11⟩; have hz11 := hb11.size; (repeat (first | rw [World.size_alloc] at hz11 | rw [World.size_setCell] at hz11 | rw [World.size_drew] at hz11)); have pp := C2.K hb11 (b := w5.heap.size) (x := _) (y := _) (c2A); obtain ⟨kk107, kk108⟩ := pp; have pp := C2.K hb11 (b := w6.heap.size) (x := _) (y := _) (c2A); obtain ⟨kk109, kk110⟩ := pp; have pp := C2.K hb11 (b := w9.heap.size) (x := _) (y := _) (c2A); obtain ⟨kk111, kk112⟩ := pp; have pp := C2.K hb11 (b := w9.heap.size + 1) (x := _) (y := _) (c2A); obtain ⟨kk113, kk114⟩ := pp; have pp := C2.K hb11 (b := w10.heap.size) (x := _) (y := _) (c2A); obtain ⟨kk115, kk116⟩ := pp; (try clear kk91 kk92 kk93 kk94 kk95 kk96 kk97 kk98 kk99 kk100 kk101 kk102 kk103 kk104 kk105 kk106))
  clear m4
  have h8 := H8.out
  clear H8
  cases can
  · clear h8
    go_wp2_with fail
    go_returns
    exact ⟨rfl, blA⟩
  obtain ⟨rfl, rfl, rfl, rfl, rfl, rfl, rfl⟩ := h8 rfl
  clear h8
  go_wp2_with fail
  go_returns
  exact ⟨rfl, blA⟩
end Go.Proofs.Ytggebkgfldmipaa
