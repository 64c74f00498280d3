import Derived.Test.YtnochfnmkenemaaSt
import Derived.Test.YtnochfnmkenemaaHd
import Derived.Test.YtnochfnmkenemaaUs
namespace Go.Proofs.Ytnochfnmkenemaa
open Go Go.RowKit
attribute [local go_sem] World.cell?_alloc_some cell?_alloc2_some cell?_alloc3_some cell?_alloc4_some frozen?_alloc_some frozen?_alloc2_some frozen?_alloc3_some World.cell?_setCell_far new_ne0 new_ne1 new_ne2 new_ne3 lt2 lt3 lt4 lt5 lt6 lt7 lt8 lt9
attribute [local go_sem ↓] eqG neG

theorem of_pos {a b c d n : Int} (h : OfIs a b c d n) (ho : ofO a b c d = true) : ∃ k : Nat, n = k ∧ k ≤ 20 ∧ vl (c, d) (a, b) k := by
  rcases h with ⟨h1, -⟩ | ⟨-, h⟩
  · rw [ho] at h1; cases h1
  · exact h
theorem ofO_fa {a b c d : Int} (h : ofO a b c d = true) : faO a b = true ∧ prO c d = true := by
  unfold ofO at h
  unfold faO
  rw [Bool.and_eq_true] at h
  exact h
/-- How often is added. -/
theorem of_mul {a b c d e f s u n m : Int} (h : OfIs a b c d n) (h' : OfIs e f c d m) (hn : ofO a b c d = true) (hm : ofO e f c d = true) (hT : TiIs a b e f true s u) : OfIs s u c d (n + m) := by
  obtain ⟨k, rfl, hk, hv⟩ := of_pos h hn
  obtain ⟨j, rfl, hj, hv'⟩ := of_pos h' hm
  obtain ⟨k1, hz, hp, kc, h2⟩ := ofO_is hn
  obtain ⟨-, hz', -, -, -⟩ := ofO_is hm
  obtain ⟨e1, e2, -, -, ks⟩ := TiIs.val hT
  have hmu : (s, u) = mu (a, b) (e, f) := by unfold mu; exact Prod.ext e1 e2
  have hv2 := vl_mul (prO_prI hp) hv hv'
  rw [← hmu] at hv2
  have hN : 1 ≤ nG (s, u) := by
    rw [hmu, nG_mu]
    have := Int.mul_le_mul hz hz' (by omega) (by omega)
    omega
  have hsz : ¬ (s = 0 ∧ u = 0) := by rintro ⟨rfl, rfl⟩; exact absurd hN (by decide)
  have ho : ofO s u c d = true := by
    unfold ofO
    rw [ks, hp]
    simp
    omega
  obtain ⟨y, hy, -⟩ := id hv2
  have hyn : 1 ≤ nG y := nG_pos (fun e => by rw [e, mu_comm] at hy; unfold mu at hy; simp at hy; exact hsz hy)
  exact .inr ⟨ho, k + j, by omega, out_bd hy h2 hyn (nG_gok (z := (s, u)) ks), hv2⟩

set_option maxHeartbeats 16000000 in
theorem walkFnOftenOf (a0 : Option Addr) (len0 cap0 : Nat) (z0 : List Int) (a1 : Option Addr) (len1 cap1 : Nat) (z1 : List Int) (w : World) (r0 : IsRow .u8 w a0 len0 cap0 z0) (r1 : IsRow .u8 w a1 len1 cap1 z1) :
    Calls Try.prog 5 #[.slice a0 len0 cap0, .slice a1 len1 cap1] w fun e w' => e = .returned (.bool true) ∧ Below w.heap.size w w' := by
  have H0 := Lib.hid r0
  have H1 := Lib.hid r1
  clear r0 r1
  by_cases hl0 : 1048576 < len0
  · go_enter Try.func5, Try.ntmps5
    go_wp2_with fail
    go_returns
    exact ⟨rfl, by (repeat' (first | (with_reducible exact Below.refl _ _) | (with_reducible refine Below.alloc ?_ ?_ _) | (with_reducible refine Below.drew ?_) | (with_reducible refine Below.setCell ?_ ?_ _) | (with_reducible refine Below.trans ?_ (Below.mono (by assumption) ?_)) | go_size))⟩
  by_cases hl1 : 1048576 < len1
  · go_enter Try.func5, Try.ntmps5
    go_wp2_with fail
    go_returns
    exact ⟨rfl, by (repeat' (first | (with_reducible exact Below.refl _ _) | (with_reducible refine Below.alloc ?_ ?_ _) | (with_reducible refine Below.drew ?_) | (with_reducible refine Below.setCell ?_ ?_ _) | (with_reducible refine Below.trans ?_ (Below.mono (by assumption) ?_)) | go_size))⟩
  go_enter Try.func5, Try.ntmps5
  go_wp2_with fail
  (refine (drawOftenOf a0 len0 cap0 z0 _ H0.out).mono ?_; rintro e w1 ⟨a, b, c, d, rfl, hb1⟩; have hz1 := hb1.size; (repeat (first | rw [World.size_alloc] at hz1 | rw [World.size_setCell] at hz1 | rw [World.size_drew] at hz1)))
  obtain ⟨n, hO⟩ := of_is a b c d
  have H1' := Lib.hid (H1.out.below hb1)
  go_wp2_with fail
  (refine (iOftenOf_v _ hO).mono ?_; rintro e w2 ⟨rfl, hb2⟩; have hz2 := hb2.size; (repeat (first | rw [World.size_alloc] at hz2 | rw [World.size_setCell] at hz2 | rw [World.size_drew] at hz2)); have pp := C2.K hb2 (b := w1.heap.size) (x := _) (y := _) (by (repeat (first | ((with_reducible apply C2.mk) <;> (with_reducible assumption)) | (with_reducible apply C2.Z) | (with_reducible apply C2.O) | ((with_reducible apply C2.B); (focus (simp; done))) | (with_reducible apply C2.A) | (with_reducible apply C2.D) | ((with_reducible apply C2.S); focus ((repeat (first | rw [World.size_alloc] | rw [World.size_setCell] | rw [World.size_drew])); omega)) | ((with_reducible apply C2.K); (focus (with_reducible assumption)))))); obtain ⟨kk1, kk2⟩ := pp; have pp := C2.K hb2 (b := w1.heap.size + 1) (x := _) (y := _) (by (repeat (first | ((with_reducible apply C2.mk) <;> (with_reducible assumption)) | (with_reducible apply C2.Z) | (with_reducible apply C2.O) | ((with_reducible apply C2.B); (focus (simp; done))) | (with_reducible apply C2.A) | (with_reducible apply C2.D) | ((with_reducible apply C2.S); focus ((repeat (first | rw [World.size_alloc] | rw [World.size_setCell] | rw [World.size_drew])); omega)) | ((with_reducible apply C2.K); (focus (with_reducible assumption)))))); obtain ⟨kk3, kk4⟩ := pp)
  go_wp2_with fail
  (refine (sOftenOf_v _ hO).mono ?_; rintro e w3 ⟨rfl, hb3⟩; have hz3 := hb3.size; (repeat (first | rw [World.size_alloc] at hz3 | rw [World.size_setCell] at hz3 | rw [World.size_drew] at hz3)); have pp := C2.K hb3 (b := w1.heap.size) (x := _) (y := _) (by (repeat (first | ((with_reducible apply C2.mk) <;> (with_reducible assumption)) | (with_reducible apply C2.Z) | (with_reducible apply C2.O) | ((with_reducible apply C2.B); (focus (simp; done))) | (with_reducible apply C2.A) | (with_reducible apply C2.D) | ((with_reducible apply C2.S); focus ((repeat (first | rw [World.size_alloc] | rw [World.size_setCell] | rw [World.size_drew])); omega)) | ((with_reducible apply C2.K); (focus (with_reducible assumption)))))); obtain ⟨kk5, kk6⟩ := pp; have pp := C2.K hb3 (b := w1.heap.size + 1) (x := _) (y := _) (by (repeat (first | ((with_reducible apply C2.mk) <;> (with_reducible assumption)) | (with_reducible apply C2.Z) | (with_reducible apply C2.O) | ((with_reducible apply C2.B); (focus (simp; done))) | (with_reducible apply C2.A) | (with_reducible apply C2.D) | ((with_reducible apply C2.S); focus ((repeat (first | rw [World.size_alloc] | rw [World.size_setCell] | rw [World.size_drew])); omega)) | ((with_reducible apply C2.K); (focus (with_reducible assumption)))))); obtain ⟨kk7, kk8⟩ := pp; (try clear kk1 kk2 kk3 kk4))
  have hnn : (n != n) = false := by simp
  cases ho : ofO a b c d
  · obtain rfl := hO.no ho
    go_wp2_with fail
    (refine (alive _).mono ?_; rintro e w4 ⟨rfl, hb4⟩; have hz4 := hb4.size; (repeat (first | rw [World.size_alloc] at hz4 | rw [World.size_setCell] at hz4 | rw [World.size_drew] at hz4)); (try clear kk5 kk6 kk7 kk8))
    go_wp2_with fail
    go_returns
    exact ⟨rfl, by (repeat' (first | (with_reducible exact Below.refl _ _) | (with_reducible refine Below.alloc ?_ ?_ _) | (with_reducible refine Below.drew ?_) | (with_reducible refine Below.setCell ?_ ?_ _) | (with_reducible refine Below.trans ?_ (Below.mono (by assumption) ?_)) | go_size))⟩
  obtain ⟨hfa, hpo⟩ := ofO_fa ho
  obtain ⟨kab, -, -, kcd, -⟩ := ofO_is ho
  obtain ⟨o', t, L, hF⟩ := fac_is a b
  have : o' = true := hF.1.trans hfa
  subst this
  obtain ⟨fa, hfa'⟩ : ∃ x, fiA c d = x := ⟨_, rfl⟩
  obtain ⟨fb, hfb'⟩ : ∃ x, fiB c d = x := ⟨_, rfl⟩
  obtain ⟨N, rfl, hN20, hvl⟩ := of_pos hO ho
  have hcnt : L.count (fa, fb) = N := by
    have := often_count hF.facs.1 hpo hvl
    rw [hfa', hfb'] at this; exact this
  have hneg : decide ((N : Int) < 0) = false := decide_eq_false (by omega)
  have hlen := hF.len
  have H1f : ∀ W, Below w.heap.size w W → IsRow .u8 W a1 len1 cap1 z1 := fun W hW => H1.out.below hW
  clear hvl
  go_wp2_with fail
  (refine (iFirstOf_v _ ⟨kcd, hfa', hfb', rfl⟩).mono ?_; rintro e w4 ⟨rfl, hb4⟩; have hz4 := hb4.size; (repeat (first | rw [World.size_alloc] at hz4 | rw [World.size_setCell] at hz4 | rw [World.size_drew] at hz4)); have pp := C2.K hb4 (b := w1.heap.size) (x := _) (y := _) (by (repeat (first | ((with_reducible apply C2.mk) <;> (with_reducible assumption)) | (with_reducible apply C2.Z) | (with_reducible apply C2.O) | ((with_reducible apply C2.B); (focus (simp; done))) | (with_reducible apply C2.A) | (with_reducible apply C2.D) | ((with_reducible apply C2.S); focus ((repeat (first | rw [World.size_alloc] | rw [World.size_setCell] | rw [World.size_drew])); omega)) | ((with_reducible apply C2.K); (focus (with_reducible assumption)))))); obtain ⟨kk9, kk10⟩ := pp; have pp := C2.K hb4 (b := w1.heap.size + 1) (x := _) (y := _) (by (repeat (first | ((with_reducible apply C2.mk) <;> (with_reducible assumption)) | (with_reducible apply C2.Z) | (with_reducible apply C2.O) | ((with_reducible apply C2.B); (focus (simp; done))) | (with_reducible apply C2.A) | (with_reducible apply C2.D) | ((with_reducible apply C2.S); focus ((repeat (first | rw [World.size_alloc] | rw [World.size_setCell] | rw [World.size_drew])); omega)) | ((with_reducible apply C2.K); (focus (with_reducible assumption)))))); obtain ⟨kk11, kk12⟩ := pp)
  go_wp2_with fail
  (refine (iFactorsOf_v _ hF).mono ?_; rintro e w5 ⟨v, rfl, hg, hb5⟩; have hz5 := hb5.size; (repeat (first | rw [World.size_alloc] at hz5 | rw [World.size_setCell] at hz5 | rw [World.size_drew] at hz5)); have pp := C2.K hb5 (b := w1.heap.size) (x := _) (y := _) (by (repeat (first | ((with_reducible apply C2.mk) <;> (with_reducible assumption)) | (with_reducible apply C2.Z) | (with_reducible apply C2.O) | ((with_reducible apply C2.B); (focus (simp; done))) | (with_reducible apply C2.A) | (with_reducible apply C2.D) | ((with_reducible apply C2.S); focus ((repeat (first | rw [World.size_alloc] | rw [World.size_setCell] | rw [World.size_drew])); omega)) | ((with_reducible apply C2.K); (focus (with_reducible assumption)))))); obtain ⟨kk13, kk14⟩ := pp; have pp := C2.K hb5 (b := w1.heap.size + 1) (x := _) (y := _) (by (repeat (first | ((with_reducible apply C2.mk) <;> (with_reducible assumption)) | (with_reducible apply C2.Z) | (with_reducible apply C2.O) | ((with_reducible apply C2.B); (focus (simp; done))) | (with_reducible apply C2.A) | (with_reducible apply C2.D) | ((with_reducible apply C2.S); focus ((repeat (first | rw [World.size_alloc] | rw [World.size_setCell] | rw [World.size_drew])); omega)) | ((with_reducible apply C2.K); (focus (with_reducible assumption)))))); obtain ⟨kk15, kk16⟩ := pp; have pp := C2.K hb5 (b := w4.heap.size) (x := _) (y := _) (by (repeat (first | ((with_reducible apply C2.mk) <;> (with_reducible assumption)) | (with_reducible apply C2.Z) | (with_reducible apply C2.O) | ((with_reducible apply C2.B); (focus (simp; done))) | (with_reducible apply C2.A) | (with_reducible apply C2.D) | ((with_reducible apply C2.S); focus ((repeat (first | rw [World.size_alloc] | rw [World.size_setCell] | rw [World.size_drew])); omega)) | ((with_reducible apply C2.K); (focus (with_reducible assumption)))))); obtain ⟨kk17, kk18⟩ := pp; (try clear kk9 kk10 kk11 kk12))
  have hB5 : Below w.heap.size w w5 := by (repeat' (first | (with_reducible exact Below.refl _ _) | (with_reducible refine Below.alloc ?_ ?_ _) | (with_reducible refine Below.drew ?_) | (with_reducible refine Below.setCell ?_ ?_ _) | (with_reducible refine Below.trans ?_ (Below.mono (by assumption) ?_)) | go_size))
  have hs5 : w4.heap.size < w5.heap.size := by omega
  have hs14 : w1.heap.size + 1 < w4.heap.size := by omega
  have x0 : w5.cell? ⟨w1.heap.size, 0, none⟩ = some (.int .i64 a) := by (repeat (first | (with_reducible assumption) | (with_reducible apply sameS) | ((with_reducible apply born); (focus (simp; done)); (focus rfl)) | (with_reducible apply keepA) | (with_reducible apply keepD) | ((with_reducible apply keepS); focus ((repeat (first | rw [World.size_alloc] | rw [World.size_setCell] | rw [World.size_drew])); omega)) | ((with_reducible apply keep); (focus (with_reducible assumption)))))
  have x1 : w5.cell? ⟨w1.heap.size, 1, none⟩ = some (.int .i64 b) := by (repeat (first | (with_reducible assumption) | (with_reducible apply sameS) | ((with_reducible apply born); (focus (simp; done)); (focus rfl)) | (with_reducible apply keepA) | (with_reducible apply keepD) | ((with_reducible apply keepS); focus ((repeat (first | rw [World.size_alloc] | rw [World.size_setCell] | rw [World.size_drew])); omega)) | ((with_reducible apply keep); (focus (with_reducible assumption)))))
  have y0 : w5.cell? ⟨w1.heap.size + 1, 0, none⟩ = some (.int .i64 c) := by (repeat (first | (with_reducible assumption) | (with_reducible apply sameS) | ((with_reducible apply born); (focus (simp; done)); (focus rfl)) | (with_reducible apply keepA) | (with_reducible apply keepD) | ((with_reducible apply keepS); focus ((repeat (first | rw [World.size_alloc] | rw [World.size_setCell] | rw [World.size_drew])); omega)) | ((with_reducible apply keep); (focus (with_reducible assumption)))))
  have y1 : w5.cell? ⟨w1.heap.size + 1, 1, none⟩ = some (.int .i64 d) := by (repeat (first | (with_reducible assumption) | (with_reducible apply sameS) | ((with_reducible apply born); (focus (simp; done)); (focus rfl)) | (with_reducible apply keepA) | (with_reducible apply keepD) | ((with_reducible apply keepS); focus ((repeat (first | rw [World.size_alloc] | rw [World.size_setCell] | rw [World.size_drew])); omega)) | ((with_reducible apply keep); (focus (with_reducible assumption)))))
  have f0 : w5.cell? ⟨w4.heap.size, 0, none⟩ = some (.int .i64 fa) := by (repeat (first | (with_reducible assumption) | (with_reducible apply sameS) | ((with_reducible apply born); (focus (simp; done)); (focus rfl)) | (with_reducible apply keepA) | (with_reducible apply keepD) | ((with_reducible apply keepS); focus ((repeat (first | rw [World.size_alloc] | rw [World.size_setCell] | rw [World.size_drew])); omega)) | ((with_reducible apply keep); (focus (with_reducible assumption)))))
  have f1 : w5.cell? ⟨w4.heap.size, 1, none⟩ = some (.int .i64 fb) := by (repeat (first | (with_reducible assumption) | (with_reducible apply sameS) | ((with_reducible apply born); (focus (simp; done)); (focus rfl)) | (with_reducible apply keepA) | (with_reducible apply keepD) | ((with_reducible apply keepS); focus ((repeat (first | rw [World.size_alloc] | rw [World.size_setCell] | rw [World.size_drew])); omega)) | ((with_reducible apply keep); (focus (with_reducible assumption)))))
  obtain ⟨av, cv, rfl, ha⟩ := hg.form
  clear hg hb1 hb2 hb3 hb4 hb5 hz1 hz2 hz3 hz4 hz5 hnn hF hfa' hfb'
  obtain ⟨ln, hn⟩ : ∃ n, L.length = n := ⟨_, rfl⟩
  rw [hn] at hlen ⊢
  go_wp2_with fail
  go_loopw [14, 15] (fun m u wr => ∃ k : Nat, m = .int .i64 ((L.take k).count (fa, fb) : Int) ∧ u = .int .i64 (k : Int) ∧ k ≤ ln ∧ Below w5.heap.size w5 wr) (fun _ u _ => ln - (intOf u).toNat)
  case atStart => exact ⟨0, by simp, rfl, Nat.zero_le _, Below.refl _ _⟩
  case round =>
    obtain ⟨k, rfl, rfl, hk, hb⟩ := hrel
    by_cases hlt : k < ln
    · have hd : decide ((k : Int) < (ln : Int)) = true := decide_eq_true (by omega)
      have hne : L ≠ [] := by rintro rfl; simp at hn; omega
      obtain ⟨g, rfl, -, hgl, hA, -⟩ := ha hne
      obtain ⟨⟨p, q⟩, hpq⟩ : ∃ q, L[k]? = some q := ⟨_, List.getElem?_eq_getElem (by omega)⟩
      obtain ⟨c0, c1⟩ := hA k p q hpq
      have l0 := keep hb c0
      have l1 := keep hb c1
      have g0 := keep hb f0
      have g1 := keep hb f1
      have htk : L.take (k + 1) = L.take k ++ [(p, q)] := by rw [List.take_add_one, hpq]; rfl
      obtain ⟨m, hm⟩ : ∃ m, (L.take k).count (fa, fb) = m := ⟨_, rfl⟩
      have hm' : (L.take (k + 1)).count (fa, fb) = m + [(p, q)].count (fa, fb) := by rw [htk, List.count_append, hm]
      have hmb : m ≤ 20 := by rw [← hm]; exact Nat.le_trans (List.count_le_length) (by rw [List.length_take]; omega)
      rw [hm]
      clear c0 c1 hA ha hpq htk hm
      cases he : (p == fa && q == fb)
      · have hc : [(p, q)].count (fa, fb) = 0 := by
          rw [List.count_eq_zero]
          intro h
          have := List.mem_singleton.1 h
          injection this with h1 h2
          subst h1 h2
          simp at he
        rw [hc, Nat.add_zero] at hm'
        clear hc
        go_wp2_with fail
        refine wp_name ?_
        intro wA hbwA
        have l0_a := keep hbwA l0
        have l0_r := cell_regrown l0_a
        have l1_a := keep hbwA l1
        have l1_r := cell_regrown l1_a
        have g0_a := keep hbwA g0
        have g0_r := cell_regrown g0_a
        have g1_a := keep hbwA g1
        have g1_r := cell_regrown g1_a
        clear l0 l1 g0 g1
        refine wp_region_quiet_below (by kernel_rfl) (by kernel_rfl) ?_
        (repeat (first | go_big_quiet_step (fail) | quiet_step (fail)))
        refine wpQuiet_nil ?_
        intro wB hwwB
        have hbwB := below_of_regrown hwwB
        clear hwwB
        have l0 := keep hbwB l0_a
        have l1 := keep hbwB l1_a
        have g0 := keep hbwB g0_a
        have g1 := keep hbwB g1_a
        clear l0_a l0_r l1_a l1_r g0_a g0_r g1_a g1_r
        have hbB : Below w5.heap.size w5 wB := (hb.trans (hbwA.mono hb.size)).trans (hbwB.mono (by have := hb.size; have := hbwA.size; omega))
        have HM := Lib.hid hm'
        clear hm'
        go_wp2_with fail
        go_roundw
        case rel => exact ⟨k + 1, by rw [HM.out]; (try simp), by simp, by omega, hbB⟩
        case measure => simp [intOf]; omega
      · have hc : [(p, q)].count (fa, fb) = 1 := by
          simp at he
          obtain ⟨rfl, rfl⟩ := he
          simp
        rw [hc] at hm'
        clear hc
        go_wp2_with fail
        refine wp_name ?_
        intro wA hbwA
        have l0_a := keep hbwA l0
        have l0_r := cell_regrown l0_a
        have l1_a := keep hbwA l1
        have l1_r := cell_regrown l1_a
        have g0_a := keep hbwA g0
        have g0_r := cell_regrown g0_a
        have g1_a := keep hbwA g1
        have g1_r := cell_regrown g1_a
        clear l0 l1 g0 g1
        refine wp_region_quiet_below (by kernel_rfl) (by kernel_rfl) ?_
        (repeat (first | go_big_quiet_step (fail) | quiet_step (fail)))
        refine wpQuiet_nil ?_
        intro wB hwwB
        have hbwB := below_of_regrown hwwB
        clear hwwB
        have l0 := keep hbwB l0_a
        have l1 := keep hbwB l1_a
        have g0 := keep hbwB g0_a
        have g1 := keep hbwB g1_a
        clear l0_a l0_r l1_a l1_r g0_a g0_r g1_a g1_r
        have hbB : Below w5.heap.size w5 wB := (hb.trans (hbwA.mono hb.size)).trans (hbwB.mono (by have := hb.size; have := hbwA.size; omega))
        have HM := Lib.hid hm'
        clear hm'
        go_wp2_with fail
        go_roundw
        case rel => exact ⟨k + 1, by rw [HM.out]; simp, by simp, by omega, hbB⟩
        case measure => simp [intOf]; omega
    · have hd : decide ((k : Int) < (ln : Int)) = false := decide_eq_false (by omega)
      have hcN : (L.take k).count (fa, fb) = N := by rw [List.take_of_length_le (by omega), hcnt]
      rw [hcN]
      have x0' := keep hb x0
      have x1' := keep hb x1
      have y0' := keep hb y0
      have y1' := keep hb y1
      have hBr : Below w.heap.size w wr := hB5.trans (hb.mono hB5.size)
      have hsr := hBr.size
      have hsb := hb.size
      have hNN : ((N : Int) == (N : Int)) = true := by simp
      clear ha hcN hcnt x0 x1 y0 y1 f0 f1
      go_wp2_with fail
      (refine (drawUnitOk a1 len1 cap1 z1 _ (H1f _ hBr)).mono ?_; rintro e w6 ⟨e, f, rfl, -, hb6⟩; have hz6 := hb6.size; (repeat (first | rw [World.size_alloc] at hz6 | rw [World.size_setCell] at hz6 | rw [World.size_drew] at hz6)); have pp := C2.K hb6 (b := w1.heap.size) (x := _) (y := _) (by (repeat (first | ((with_reducible apply C2.mk) <;> (with_reducible assumption)) | (with_reducible apply C2.Z) | (with_reducible apply C2.O) | ((with_reducible apply C2.B); (focus (simp; done))) | (with_reducible apply C2.A) | (with_reducible apply C2.D) | ((with_reducible apply C2.S); focus ((repeat (first | rw [World.size_alloc] | rw [World.size_setCell] | rw [World.size_drew])); omega)) | ((with_reducible apply C2.K); (focus (with_reducible assumption)))))); obtain ⟨kk19, kk20⟩ := pp; have pp := C2.K hb6 (b := w1.heap.size + 1) (x := _) (y := _) (by (repeat (first | ((with_reducible apply C2.mk) <;> (with_reducible assumption)) | (with_reducible apply C2.Z) | (with_reducible apply C2.O) | ((with_reducible apply C2.B); (focus (simp; done))) | (with_reducible apply C2.A) | (with_reducible apply C2.D) | ((with_reducible apply C2.S); focus ((repeat (first | rw [World.size_alloc] | rw [World.size_setCell] | rw [World.size_drew])); omega)) | ((with_reducible apply C2.K); (focus (with_reducible assumption)))))); obtain ⟨kk21, kk22⟩ := pp; (try clear kk13 kk14 kk15 kk16 kk17 kk18))
      obtain ⟨oT, s, u, hT⟩ := ti_is a b e f
      obtain ⟨m, hO2⟩ := of_is e f c d
      clear x0' x1' y0' y1'
      go_wp2_with fail
      (refine (iTimesOf_v _ hT).mono ?_; rintro e w7 ⟨rfl, hb7⟩; have hz7 := hb7.size; (repeat (first | rw [World.size_alloc] at hz7 | rw [World.size_setCell] at hz7 | rw [World.size_drew] at hz7)); have pp := C2.K hb7 (b := w1.heap.size) (x := _) (y := _) (by (repeat (first | ((with_reducible apply C2.mk) <;> (with_reducible assumption)) | (with_reducible apply C2.Z) | (with_reducible apply C2.O) | ((with_reducible apply C2.B); (focus (simp; done))) | (with_reducible apply C2.A) | (with_reducible apply C2.D) | ((with_reducible apply C2.S); focus ((repeat (first | rw [World.size_alloc] | rw [World.size_setCell] | rw [World.size_drew])); omega)) | ((with_reducible apply C2.K); (focus (with_reducible assumption)))))); obtain ⟨kk23, kk24⟩ := pp; have pp := C2.K hb7 (b := w1.heap.size + 1) (x := _) (y := _) (by (repeat (first | ((with_reducible apply C2.mk) <;> (with_reducible assumption)) | (with_reducible apply C2.Z) | (with_reducible apply C2.O) | ((with_reducible apply C2.B); (focus (simp; done))) | (with_reducible apply C2.A) | (with_reducible apply C2.D) | ((with_reducible apply C2.S); focus ((repeat (first | rw [World.size_alloc] | rw [World.size_setCell] | rw [World.size_drew])); omega)) | ((with_reducible apply C2.K); (focus (with_reducible assumption)))))); obtain ⟨kk25, kk26⟩ := pp; have pp := C2.K hb7 (b := w6.heap.size) (x := _) (y := _) (by (repeat (first | ((with_reducible apply C2.mk) <;> (with_reducible assumption)) | (with_reducible apply C2.Z) | (with_reducible apply C2.O) | ((with_reducible apply C2.B); (focus (simp; done))) | (with_reducible apply C2.A) | (with_reducible apply C2.D) | ((with_reducible apply C2.S); focus ((repeat (first | rw [World.size_alloc] | rw [World.size_setCell] | rw [World.size_drew])); omega)) | ((with_reducible apply C2.K); (focus (with_reducible assumption)))))); obtain ⟨kk27, kk28⟩ := pp; (try clear kk19 kk20 kk21 kk22))
      go_wp2_with fail
      (refine (iOftenOf_v _ hO2).mono ?_; rintro e w8 ⟨rfl, hb8⟩; have hz8 := hb8.size; (repeat (first | rw [World.size_alloc] at hz8 | rw [World.size_setCell] at hz8 | rw [World.size_drew] at hz8)); have pp := C2.K hb8 (b := w1.heap.size + 1) (x := _) (y := _) (by (repeat (first | ((with_reducible apply C2.mk) <;> (with_reducible assumption)) | (with_reducible apply C2.Z) | (with_reducible apply C2.O) | ((with_reducible apply C2.B); (focus (simp; done))) | (with_reducible apply C2.A) | (with_reducible apply C2.D) | ((with_reducible apply C2.S); focus ((repeat (first | rw [World.size_alloc] | rw [World.size_setCell] | rw [World.size_drew])); omega)) | ((with_reducible apply C2.K); (focus (with_reducible assumption)))))); obtain ⟨kk29, kk30⟩ := pp; have pp := C2.K hb8 (b := w7.heap.size) (x := _) (y := _) (by (repeat (first | ((with_reducible apply C2.mk) <;> (with_reducible assumption)) | (with_reducible apply C2.Z) | (with_reducible apply C2.O) | ((with_reducible apply C2.B); (focus (simp; done))) | (with_reducible apply C2.A) | (with_reducible apply C2.D) | ((with_reducible apply C2.S); focus ((repeat (first | rw [World.size_alloc] | rw [World.size_setCell] | rw [World.size_drew])); omega)) | ((with_reducible apply C2.K); (focus (with_reducible assumption)))))); obtain ⟨kk31, kk32⟩ := pp; (try clear kk23 kk24 kk25 kk26 kk27 kk28))
      have hB8 : Below w.heap.size w w8 := hBr.trans ((show Below wr.heap.size wr w8 by (repeat' (first | (with_reducible exact Below.refl _ _) | (with_reducible refine Below.alloc ?_ ?_ _) | (with_reducible refine Below.drew ?_) | (with_reducible refine Below.setCell ?_ ?_ _) | (with_reducible refine Below.trans ?_ (Below.mono (by assumption) ?_)) | go_size))).mono hsr)
      have hs8 := hB8.size
      clear hb6 hb7 hb8
      cases oT
      · clear hO hO2 hT
        go_wp2_with fail
        (refine (alive _).mono ?_; rintro e w9 ⟨rfl, hb9⟩; have hz9 := hb9.size; (repeat (first | rw [World.size_alloc] at hz9 | rw [World.size_setCell] at hz9 | rw [World.size_drew] at hz9)); (try clear kk29 kk30 kk31 kk32))
        go_wp2_with fail
        go_returns
        exact ⟨rfl, hB8.trans (hb9.mono hs8)⟩
      cases ho2 : ofO e f c d
      · obtain rfl := hO2.no ho2
        clear hO hO2 hT
        go_wp2_with fail
        (refine (alive _).mono ?_; rintro e w9 ⟨rfl, hb9⟩; have hz9 := hb9.size; (repeat (first | rw [World.size_alloc] at hz9 | rw [World.size_setCell] at hz9 | rw [World.size_drew] at hz9)))
        go_wp2_with fail
        go_returns
        exact ⟨rfl, hB8.trans (hb9.mono hs8)⟩
      have hO3 := of_mul hO hO2 ho ho2 hT
      obtain ⟨M, rfl, hM, -⟩ := of_pos hO2 ho2
      have hneg2 : decide ((M : Int) < 0) = false := decide_eq_false (by omega)
      have hnm : ((N : Int) + (M : Int) == (N : Int) + (M : Int)) = true := by simp
      clear hO hO2 hT
      go_wp2_with fail
      (refine (iOftenOf_v _ hO3).mono ?_; rintro e w9 ⟨rfl, hb9⟩; have hz9 := hb9.size; (repeat (first | rw [World.size_alloc] at hz9 | rw [World.size_setCell] at hz9 | rw [World.size_drew] at hz9)))
      go_wp2_with fail
      (refine (alive _).mono ?_; rintro e w10 ⟨rfl, hb10⟩; have hz10 := hb10.size; (repeat (first | rw [World.size_alloc] at hz10 | rw [World.size_setCell] at hz10 | rw [World.size_drew] at hz10)))
      go_wp2_with fail
      go_returns
      exact ⟨by first | rfl | simp, (hB8.trans (hb9.mono hs8)).trans (hb10.mono (by omega))⟩
end Go.Proofs.Ytnochfnmkenemaa
