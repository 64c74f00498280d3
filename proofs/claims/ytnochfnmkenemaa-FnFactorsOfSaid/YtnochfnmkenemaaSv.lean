import Derived.Test.YtnochfnmkenemaaSt
import Derived.Test.YtnochfnmkenemaaSc
namespace Go.Proofs.Ytnochfnmkenemaa
open Go Go.RowKit
attribute [local go_sem] World.cell?_alloc_some cell?_alloc2_some cell?_alloc3_some cell?_alloc4_some frozen?_alloc_some frozen?_alloc2_some frozen?_alloc3_some World.cell?_setCell_far new_ne0 new_ne1 new_ne2 new_ne3 lt2 lt3 lt4 lt5 lt6 lt7 lt8 lt9
attribute [local go_sem ↓] eqG neG

theorem pd_val : ∀ (l : List (Int × Int)) (x y u v : Int), gok x y = true → pdF l x y = some (u, v) → mu (x, y) (prodG l) = (u, v) ∧ gok u v = true := by
  intro l
  induction l with
  | nil =>
    intro x y u v k h
    rw [pdF] at h
    injection h with h
    injection h with h1 h2
    subst h1 h2
    exact ⟨by rw [prodG, mu_comm, mu_one], k⟩
  | cons p l ih =>
    intro x y u v k h
    rw [pdF] at h
    cases ho : tiO x y p.1 p.2
    · rw [ho, if_neg (by simp)] at h; cases h
    · rw [ho, if_pos rfl] at h
      obtain ⟨e1, e2, -, -, ks⟩ := tiO_val ho
      rw [← e1, ← e2] at ks
      obtain ⟨h1, h2⟩ := ih _ _ u v ks h
      refine ⟨?_, h2⟩
      have e : mu (x, y) p = (tiA x y p.1 p.2, tiB x y p.1 p.2) := by
        rw [e1, e2]; rfl
      rw [prodG, ← mu_assoc, e, h1]
theorem pdR_val {t u v : Int} {l : List (Int × Int)} (h : pdR t l = some (u, v)) : 0 ≤ t ∧ t ≤ 3 ∧ mu (uG t) (prodG l) = (u, v) ∧ gok u v = true := by
  by_cases hc : (0 ≤ t ∧ t ≤ 3) ∧ l.length ≤ 24
  · rw [pdR_yes hc] at h
    obtain ⟨h1, h2⟩ := pd_val l _ _ u v (unit_gok hc.1.1 hc.1.2) h
    exact ⟨hc.1.1, hc.1.2, h1, h2⟩
  · rw [pdR_no hc] at h; cases h
/-- Is a number a prime of the first quarter, as the law asks. -/
def pqB (p : Int × Int) : Bool := gok p.1 p.2 && (fiA p.1 p.2 == p.1 && fiB p.1 p.2 == p.2) && prO p.1 p.2
theorem pq_is {p : Int × Int} (h : pqB p = true) : PrQ p := by
  simp only [pqB, Bool.and_eq_true, beq_iff_eq] at h
  obtain ⟨⟨k, h1, h2⟩, h3⟩ := h
  have hp := pr_nG (p := p) (prO_prI h3)
  have hz : ¬ (p.1 = 0 ∧ p.2 = 0) := fun ⟨h4, h5⟩ => by unfold nG at hp; rw [h4, h5] at hp; omega
  have := fi_fq k hz
  rw [h1, h2] at this
  exact ⟨h3, this⟩

set_option maxRecDepth 100000 in
set_option maxHeartbeats 16000000 in
theorem walkFnProductOf (a : Option Addr) (len cap : Nat) (zs : List Int) (w : World) (h : IsRow .u8 w a len cap zs) :
    Calls Try.prog 4 #[.slice a len cap] w fun e w' => e = .returned (.bool true) ∧ Below w.heap.size w w' := by
  by_cases hl : 1048576 < len
  · clear h
    go_enter Try.func4, Try.ntmps4
    go_wp2_with fail
    go_returns
    exact ⟨rfl, by (repeat' (first | (with_reducible exact Below.refl _ _) | (with_reducible refine Below.alloc ?_ ?_ _) | (with_reducible refine Below.drew ?_) | (with_reducible refine Below.setCell ?_ ?_ _) | (with_reducible refine Below.trans ?_ (Below.mono (by assumption) ?_)) | go_size))⟩
  have H := Lib.hid h
  clear h
  go_enter Try.func4, Try.ntmps4
  go_wp2_with fail
  (refine (drawProductOf a len cap zs _ H.out).mono ?_; rintro e w1 ⟨t, L, v, rfl, hg, hlen, hb1⟩; have hz1 := hb1.size; (repeat (first | rw [World.size_alloc] at hz1 | rw [World.size_setCell] at hz1 | rw [World.size_drew] at hz1)))
  obtain ⟨r, hr⟩ : ∃ r, pdR t L = r := ⟨_, rfl⟩
  obtain ⟨rx, hrx⟩ : ∃ rx, (r.getD (0, 0)).1 = rx := ⟨_, rfl⟩
  obtain ⟨ry, hry⟩ : ∃ ry, (r.getD (0, 0)).2 = ry := ⟨_, rfl⟩
  obtain ⟨ro, hro⟩ : ∃ ro, r.isSome = ro := ⟨_, rfl⟩
  have hI : ∀ W, LR W v L → Calls Try.prog 19 #[.int .i64 t, v] W fun e w' => e = .returned (.tuple #[.agg #[.int .i64 rx, .int .i64 ry], .bool ro]) ∧ Below W.heap.size W w' := fun W hW => by
    have := iProductOf t L v W hW
    rw [hr, rT, hrx, hry, hro] at this; exact this
  have hS : ∀ W, LR W v L → Calls Try.prog 23 #[.int .i64 t, v] W fun e w' => e = .returned (.tuple #[.agg #[.int .i64 rx, .int .i64 ry], .bool ro]) ∧ Below W.heap.size W w' := fun W hW => by
    have := sProductOf t L v W hW
    rw [hr, rT, hrx, hry, hro] at this; exact this
  have hlr := hg.lr
  obtain ⟨av, cv, rfl, ha⟩ := hg.form
  have HL := Lib.hid hlr
  clear hg hlr
  go_wp2_with fail
  (refine (hI _ HL.out).mono ?_; rintro e w2 ⟨rfl, hb2⟩; have hz2 := hb2.size; (repeat (first | rw [World.size_alloc] at hz2 | rw [World.size_setCell] at hz2 | rw [World.size_drew] at hz2)))
  have HL2 := Lib.hid (HL.out.below hb2)
  go_wp2_with fail
  (refine (hS _ (HL2.out.below (by (repeat' (first | (with_reducible exact Below.refl _ _) | (with_reducible refine Below.alloc ?_ ?_ _) | (with_reducible refine Below.drew ?_) | (with_reducible refine Below.setCell ?_ ?_ _) | (with_reducible refine Below.trans ?_ (Below.mono (by assumption) ?_)) | go_size))))).mono ?_; rintro e w3 ⟨rfl, hb3⟩; have hz3 := hb3.size; (repeat (first | rw [World.size_alloc] at hz3 | rw [World.size_setCell] at hz3 | rw [World.size_drew] at hz3)); have pp := C2.K hb3 (b := w2.heap.size) (x := _) (y := _) (by (repeat (first | ((with_reducible apply C2.mk) <;> (with_reducible assumption)) | (with_reducible apply C2.Z) | (with_reducible apply C2.O) | ((with_reducible apply C2.B); (focus (simp; done))) | (with_reducible apply C2.A) | (with_reducible apply C2.D) | ((with_reducible apply C2.S); focus ((repeat (first | rw [World.size_alloc] | rw [World.size_setCell] | rw [World.size_drew])); omega)) | ((with_reducible apply C2.K); (focus (with_reducible assumption)))))); obtain ⟨kk1, kk2⟩ := pp)
  clear hI hS HL HL2
  have hrr : (rx == rx && ry == ry) = true := by simp
  have hxo : (ro != ro) = false := by cases ro <;> rfl
  cases ro
  · have hn : r = none := by cases r <;> simp at hro ⊢
    subst hn
    have e1 : (0 : Int) = rx := hrx
    have e2 : (0 : Int) = ry := hry
    subst e1 e2
    clear hr hrx hry ha hro
    go_wp2_with fail
    (refine (alive _).mono ?_; rintro e w4 ⟨rfl, hb4⟩; have hz4 := hb4.size; (repeat (first | rw [World.size_alloc] at hz4 | rw [World.size_setCell] at hz4 | rw [World.size_drew] at hz4)); (try clear kk1 kk2))
    go_wp2_with fail
    go_returns
    exact ⟨rfl, by (repeat' (first | (with_reducible exact Below.refl _ _) | (with_reducible refine Below.alloc ?_ ?_ _) | (with_reducible refine Below.drew ?_) | (with_reducible refine Below.setCell ?_ ?_ _) | (with_reducible refine Below.trans ?_ (Below.mono (by assumption) ?_)) | go_size))⟩
  obtain ⟨⟨r1, r2⟩, rfl⟩ : ∃ q, r = some q := by
    cases r with
    | none => simp at hro
    | some q => exact ⟨q, rfl⟩
  have e1 : r1 = rx := hrx
  have e2 : r2 = ry := hry
  subst e1 e2
  obtain ⟨ht0, ht3, hmu, kr⟩ := pdR_val hr
  have hB3 : Below w.heap.size w w3 := by (repeat' (first | (with_reducible exact Below.refl _ _) | (with_reducible refine Below.alloc ?_ ?_ _) | (with_reducible refine Below.drew ?_) | (with_reducible refine Below.setCell ?_ ?_ _) | (with_reducible refine Below.trans ?_ (Below.mono (by assumption) ?_)) | go_size))
  have hs3 : w2.heap.size < w3.heap.size := by omega
  have z0 : w3.cell? ⟨w2.heap.size, 0, none⟩ = some (.int .i64 r1) := by (repeat (first | (with_reducible assumption) | (with_reducible apply sameS) | ((with_reducible apply born); (focus (simp; done)); (focus rfl)) | (with_reducible apply keepA) | (with_reducible apply keepD) | ((with_reducible apply keepS); focus ((repeat (first | rw [World.size_alloc] | rw [World.size_setCell] | rw [World.size_drew])); omega)) | ((with_reducible apply keep); (focus (with_reducible assumption)))))
  have z1 : w3.cell? ⟨w2.heap.size, 1, none⟩ = some (.int .i64 r2) := by (repeat (first | (with_reducible assumption) | (with_reducible apply sameS) | ((with_reducible apply born); (focus (simp; done)); (focus rfl)) | (with_reducible apply keepA) | (with_reducible apply keepD) | ((with_reducible apply keepS); focus ((repeat (first | rw [World.size_alloc] | rw [World.size_setCell] | rw [World.size_drew])); omega)) | ((with_reducible apply keep); (focus (with_reducible assumption)))))
  have hb13 : Below w1.heap.size w1 w3 := by clear hB3 hb1; (repeat' (first | (with_reducible exact Below.refl _ _) | (with_reducible refine Below.alloc ?_ ?_ _) | (with_reducible refine Below.drew ?_) | (with_reducible refine Below.setCell ?_ ?_ _) | (with_reducible refine Below.trans ?_ (Below.mono (by assumption) ?_)) | go_size))
  clear hrx hry hro hb1 hb2 hb3 hz1 hz2 hz3 H
  obtain ⟨n, hn⟩ : ∃ n, L.length = n := ⟨_, rfl⟩
  rw [hn] at hlen ⊢
  go_wp2_with fail
  clear hrr hxo
  refine wp_nm (fun W => C2 W w2.heap.size (.int .i64 r1) (.int .i64 r2) ∧ Below w1.heap.size w1 W ∧ Below w.heap.size w W) ⟨by (repeat (first | ((with_reducible apply C2.mk) <;> (with_reducible assumption)) | (with_reducible apply C2.Z) | (with_reducible apply C2.O) | ((with_reducible apply C2.B); (focus (simp; done))) | (with_reducible apply C2.A) | (with_reducible apply C2.D) | ((with_reducible apply C2.S); focus ((repeat (first | rw [World.size_alloc] | rw [World.size_setCell] | rw [World.size_drew])); omega)) | ((with_reducible apply C2.K); (focus (with_reducible assumption))))), hb13.trans (((Below.refl _ w3).alloc (Nat.le_refl _) _).mono hb13.size), hB3.trans (((Below.refl _ w3).alloc (Nat.le_refl _) _).mono hB3.size)⟩ ?_
  rintro wB ⟨⟨y0, y1⟩, hb1B, hBB⟩
  clear z0 z1 hB3 hb13 kk1 kk2
  have hs2B := World.block_lt_of_cell? _ _ y0
  simp only at hs2B
  go_loopw [9, 10] (fun b u wr => ∃ (k : Nat) (c : Bool), b = .bool c ∧ u = .int .i64 (k : Int) ∧ k ≤ n ∧ (c = true → ∀ p ∈ L.take k, PrQ p) ∧ Below wB.heap.size wB wr) (fun _ u _ => n - (intOf u).toNat)
  case atStart => exact ⟨0, true, rfl, rfl, Nat.zero_le _, fun _ p hp => (by rw [List.take_zero] at hp; exact absurd hp List.not_mem_nil), Below.refl _ _⟩
  case round =>
    obtain ⟨k, c, rfl, rfl, hk, hc, hb⟩ := hrel
    by_cases hlt : k < n
    · have hd : decide ((k : Int) < (n : Int)) = true := decide_eq_true (by omega)
      have hne : L ≠ [] := by rintro rfl; simp at hn; omega
      obtain ⟨g, rfl, -, hgl, hA, -⟩ := ha hne
      obtain ⟨⟨p, q⟩, hpq⟩ : ∃ q, L[k]? = some q := ⟨_, List.getElem?_eq_getElem (by omega)⟩
      obtain ⟨c0, c1⟩ := hA k p q hpq
      have l0 := keep hb (keep hb1B c0)
      have l1 := keep hb (keep hb1B c1)
      have htk : L.take (k + 1) = L.take k ++ [(p, q)] := by rw [List.take_add_one, hpq]; rfl
      obtain ⟨o1, ho1⟩ : ∃ x, gok p q = x := ⟨_, rfl⟩
      obtain ⟨fa, hfa⟩ : ∃ x, fiA p q = x := ⟨_, rfl⟩
      obtain ⟨fb, hfb⟩ : ∃ x, fiB p q = x := ⟨_, rfl⟩
      obtain ⟨ft, hft⟩ : ∃ x, fiT p q = x := ⟨_, rfl⟩
      obtain ⟨pr, hpr⟩ : ∃ x, prO p q = x := ⟨_, rfl⟩
      have hP : ∀ W, Calls Try.prog 17 #[.agg #[.int .i64 p, .int .i64 q]] W fun e w' => e = .returned (.bool pr) ∧ Below W.heap.size W w' := fun W => by rw [← hpr]; exact iPrimeOk p q W
      have hall : c = true → (o1 && (fa == p && fb == q) && pr) = true → ∀ r ∈ L.take (k + 1), PrQ r := fun h1 h2 r hr => by
        rw [htk] at hr
        rcases List.mem_append.1 hr with h' | h'
        · exact hc h1 r h'
        · rw [List.mem_singleton.1 h']
          refine pq_is ?_
          unfold pqB
          rw [ho1, hfa, hfb, hpr]; exact h2
      have hsb := hb.size
      clear c0 c1 hA ha hc hpq htk hpr
      go_wp2_with fail
      (refine (iFirstOf_v _ ⟨ho1, hfa, hfb, hft⟩).mono ?_; rintro e w5 ⟨rfl, hb5⟩; have hz5 := hb5.size; (repeat (first | rw [World.size_alloc] at hz5 | rw [World.size_setCell] at hz5 | rw [World.size_drew] at hz5)))
      have m0 : (w5.alloc (.cells #[.int .i64 fa, .int .i64 fb] 24)).cell? ⟨g, k * 2, none⟩ = some (.int .i64 p) := keepA (keep hb5 l0)
      have m1 : (w5.alloc (.cells #[.int .i64 fa, .int .i64 fb] 24)).cell? ⟨g, k * 2 + 1, none⟩ = some (.int .i64 q) := keepA (keep hb5 l1)
      have m2 : (w5.alloc (.cells #[.int .i64 fa, .int .i64 fb] 24)).cell? ⟨w5.heap.size, 0, none⟩ = some (.int .i64 fa) := born (l := [.int .i64 fa, .int .i64 fb]) rfl rfl
      have m3 : (w5.alloc (.cells #[.int .i64 fa, .int .i64 fb] 24)).cell? ⟨w5.heap.size, 1, none⟩ = some (.int .i64 fb) := born (l := [.int .i64 fa, .int .i64 fb]) rfl rfl
      have hbA : Below wB.heap.size wB (w5.alloc (.cells #[.int .i64 fa, .int .i64 fb] 24)) := by
        have h1 := hb.trans (hb5.mono hsb)
        exact h1.trans ((show Below w5.heap.size w5 _ by (repeat' (first | (with_reducible exact Below.refl _ _) | (with_reducible refine Below.alloc ?_ ?_ _) | (with_reducible refine Below.drew ?_) | (with_reducible refine Below.setCell ?_ ?_ _) | (with_reducible refine Below.trans ?_ (Below.mono (by assumption) ?_)) | go_size))).mono (by omega))
      have hsA := hbA.size
      clear l0 l1 hb hb5 ho1 hfa hfb hft
      cases c
      · have hn' : false = true → ∀ r ∈ L.take (k + 1), PrQ r := fun h => by cases h
        clear hall hP
        go_upto_region 15 with fail
        refine wp_name ?_
        intro wC hbwC
        have m0_a := keep hbwC m0
        have m0_r := cell_regrown m0_a
        have m1_a := keep hbwC m1
        have m1_r := cell_regrown m1_a
        have m2_a := keep hbwC m2
        have m2_r := cell_regrown m2_a
        have m3_a := keep hbwC m3
        have m3_r := cell_regrown m3_a
        clear m0 m1 m2 m3
        refine wp_region_quiet_below (by kernel_rfl) (by kernel_rfl) ?_
        (repeat (first | go_big_quiet_step (fail) | quiet_step (fail)))
        refine wpQuiet_nil ?_
        intro wD hwwD
        have hbwD := below_of_regrown hwwD
        clear hwwD
        have m0 := keep hbwD m0_a
        have m1 := keep hbwD m1_a
        have m2 := keep hbwD m2_a
        have m3 := keep hbwD m3_a
        clear m0_a m0_r m1_a m1_r m2_a m2_r m3_a m3_r
        have hbD : Below wB.heap.size wB wD := (hbA.trans (hbwC.mono hsA)).trans (hbwD.mono (by have := hbwC.size; omega))
        go_wp2_with fail
        go_roundw
        case rel => exact ⟨k + 1, false, rfl, by simp, by omega, hn', hbD⟩
        case measure => simp [intOf]; omega
      · cases o1
        · have hn' : false = true → ∀ r ∈ L.take (k + 1), PrQ r := fun h => by cases h
          clear hall hP
          go_upto_region 15 with fail
          refine wp_name ?_
          intro wC hbwC
          have m0_a := keep hbwC m0
          have m0_r := cell_regrown m0_a
          have m1_a := keep hbwC m1
          have m1_r := cell_regrown m1_a
          have m2_a := keep hbwC m2
          have m2_r := cell_regrown m2_a
          have m3_a := keep hbwC m3
          have m3_r := cell_regrown m3_a
          clear m0 m1 m2 m3
          refine wp_region_quiet_below (by kernel_rfl) (by kernel_rfl) ?_
          (repeat (first | go_big_quiet_step (fail) | quiet_step (fail)))
          refine wpQuiet_nil ?_
          intro wD hwwD
          have hbwD := below_of_regrown hwwD
          clear hwwD
          have m0 := keep hbwD m0_a
          have m1 := keep hbwD m1_a
          have m2 := keep hbwD m2_a
          have m3 := keep hbwD m3_a
          clear m0_a m0_r m1_a m1_r m2_a m2_r m3_a m3_r
          have hbD : Below wB.heap.size wB wD := (hbA.trans (hbwC.mono hsA)).trans (hbwD.mono (by have := hbwC.size; omega))
          go_wp2_with fail
          go_roundw
          case rel => exact ⟨k + 1, false, rfl, by simp, by omega, hn', hbD⟩
          case measure => simp [intOf]; omega
        · cases hE : (fa == p && fb == q)
          · have hn' : false = true → ∀ r ∈ L.take (k + 1), PrQ r := fun h => by cases h
            clear hall hP
            go_upto_region 15 with fail
            refine wp_name ?_
            intro wC hbwC
            have m0_a := keep hbwC m0
            have m0_r := cell_regrown m0_a
            have m1_a := keep hbwC m1
            have m1_r := cell_regrown m1_a
            have m2_a := keep hbwC m2
            have m2_r := cell_regrown m2_a
            have m3_a := keep hbwC m3
            have m3_r := cell_regrown m3_a
            clear m0 m1 m2 m3
            refine wp_region_quiet_below (by kernel_rfl) (by kernel_rfl) ?_
            (repeat (first | go_big_quiet_step (fail) | quiet_step (fail)))
            refine wpQuiet_nil ?_
            intro wD hwwD
            have hbwD := below_of_regrown hwwD
            clear hwwD
            have m0 := keep hbwD m0_a
            have m1 := keep hbwD m1_a
            have m2 := keep hbwD m2_a
            have m3 := keep hbwD m3_a
            clear m0_a m0_r m1_a m1_r m2_a m2_r m3_a m3_r
            have hbD : Below wB.heap.size wB wD := (hbA.trans (hbwC.mono hsA)).trans (hbwD.mono (by have := hbwC.size; omega))
            go_wp2_with fail
            go_roundw
            case rel => exact ⟨k + 1, false, rfl, by simp, by omega, hn', hbD⟩
            case measure => simp [intOf]; omega
          · have hn' : pr = true → ∀ r ∈ L.take (k + 1), PrQ r := fun h => hall rfl (by rw [hE, h]; rfl)
            clear hall
            go_upto_region 15 with fail
            refine wp_name ?_
            intro wC hbwC
            have m0_a := keep hbwC m0
            have m0_r := cell_regrown m0_a
            have m1_a := keep hbwC m1
            have m1_r := cell_regrown m1_a
            have m2_a := keep hbwC m2
            have m2_r := cell_regrown m2_a
            have m3_a := keep hbwC m3
            have m3_r := cell_regrown m3_a
            clear m0 m1 m2 m3
            refine wp_region_quiet_below (by kernel_rfl) (by kernel_rfl) ?_
            (repeat (first | go_big_quiet_step ((first | (go_at_call 17; exact Calls.regrown_of (hP _)))) | quiet_step ((first | (go_at_call 17; exact Calls.regrown_of (hP _))))))
            refine wpQuiet_nil ?_
            intro wD hwwD
            have hbwD := below_of_regrown hwwD
            clear hwwD
            have m0 := keep hbwD m0_a
            have m1 := keep hbwD m1_a
            have m2 := keep hbwD m2_a
            have m3 := keep hbwD m3_a
            clear m0_a m0_r m1_a m1_r m2_a m2_r m3_a m3_r
            have hbD : Below wB.heap.size wB wD := (hbA.trans (hbwC.mono hsA)).trans (hbwD.mono (by have := hbwC.size; omega))
            go_wp2_with fail
            go_roundw
            case rel => exact ⟨k + 1, pr, rfl, by simp, by omega, hn', hbD⟩
            case measure => simp [intOf]; omega
    · have hd : decide ((k : Int) < (n : Int)) = false := decide_eq_false (by omega)
      have hcL : c = true → ∀ p ∈ L, PrQ p := fun h p hp => hc h p (by rw [List.take_of_length_le (by omega)]; exact hp)
      have hdt : decide (0 ≤ t ∧ t ≤ 3) = true := decide_eq_true ⟨ht0, ht3⟩
      obtain ⟨ux, hux⟩ : ∃ x, trA t 1 0 = x := ⟨_, rfl⟩
      obtain ⟨uy, huy⟩ : ∃ x, trB t 1 0 = x := ⟨_, rfl⟩
      have hue : uG t = (ux, uy) := by
        obtain ⟨e1, e2⟩ := tr_t (t := t) (a := 1) (b := 0) (by rw [trO, hdt]; rfl)
        rw [← hux, ← huy, e1, e2]; rfl
      have x0 := keep hb y0
      have x1 := keep hb y1
      have hBr : Below w.heap.size w wr := hBB.trans (hb.mono hBB.size)
      have hsr := hBr.size
      have hsb := hb.size
      clear hc ha y0 y1
      go_wp2_with fail
      (refine (iUnitOf_v _ ⟨hdt, hux, huy⟩).mono ?_; rintro e w5 ⟨rfl, hb5⟩; have hz5 := hb5.size; (repeat (first | rw [World.size_alloc] at hz5 | rw [World.size_setCell] at hz5 | rw [World.size_drew] at hz5)); have pp := C2.K hb5 (b := w2.heap.size) (x := _) (y := _) (by (repeat (first | ((with_reducible apply C2.mk) <;> (with_reducible assumption)) | (with_reducible apply C2.Z) | (with_reducible apply C2.O) | ((with_reducible apply C2.B); (focus (simp; done))) | (with_reducible apply C2.A) | (with_reducible apply C2.D) | ((with_reducible apply C2.S); focus ((repeat (first | rw [World.size_alloc] | rw [World.size_setCell] | rw [World.size_drew])); omega)) | ((with_reducible apply C2.K); (focus (with_reducible assumption)))))); obtain ⟨kk3, kk4⟩ := pp)
      have hB5 : Below w.heap.size w w5 := hBr.trans (hb5.mono hsr)
      have hs5 := hB5.size
      clear hux huy hdt
      by_cases hn0 : n = 0
      · subst hn0
        have hL : L = [] := List.length_eq_zero_iff.1 hn
        rw [hL, prodG, mu_comm, mu_one, hue] at hmu
        injection hmu with e1 e2
        subst e1 e2
        have hE : (ux == ux && uy == uy) = true := by simp
        go_wp2_with fail
        go_returns
        exact ⟨rfl, hB5.trans ((show Below w5.heap.size w5 _ by (repeat' (first | (with_reducible exact Below.refl _ _) | (with_reducible refine Below.alloc ?_ ?_ _) | (with_reducible refine Below.drew ?_) | (with_reducible refine Below.setCell ?_ ?_ _) | (with_reducible refine Below.trans ?_ (Below.mono (by assumption) ?_)) | go_size))).mono hs5)⟩
      · have hn1 : ((n : Int) == 0) = false := by rw [beq_eq_false_iff_ne]; omega
        obtain ⟨o', s, K, hF⟩ := fac_is r1 r2
        go_wp2_with fail
        (refine (iFactorsOf_v _ hF).mono ?_; rintro e w6 ⟨vk, rfl, gk, hb6⟩; have hz6 := hb6.size; (repeat (first | rw [World.size_alloc] at hz6 | rw [World.size_setCell] at hz6 | rw [World.size_drew] at hz6)); (try clear kk3 kk4))
        obtain ⟨ak, ck, rfl, -⟩ := gk.form
        have hB6 : Below w.heap.size w w6 := hB5.trans ((show Below w5.heap.size w5 w6 by (repeat' (first | (with_reducible exact Below.refl _ _) | (with_reducible refine Below.alloc ?_ ?_ _) | (with_reducible refine Below.drew ?_) | (with_reducible refine Below.setCell ?_ ?_ _) | (with_reducible refine Below.trans ?_ (Below.mono (by assumption) ?_)) | go_size))).mono hs5)
        cases c
        · go_wp2_with fail
          go_returns
          exact ⟨rfl, hB6⟩
        · have hpr := hcL rfl
          have hz : faO r1 r2 = true := by
            have h1 := nG_mu (uG t) (prodG L)
            rw [hmu, uG_nG ht0 ht3, Int.one_mul] at h1
            have h2 := prodG_nG hpr
            have hrz : ¬ (r1 = 0 ∧ r2 = 0) := fun h => h2 (by rw [← h1, h.1, h.2]; rfl)
            unfold faO
            rw [kr]
            simp
            omega
          have ho' : o' = true := hF.1.trans hz
          subst ho'
          obtain ⟨e1, e2⟩ := hF.facs.1.any ht0 ht3 hpr hmu
          subst e1
          have hkn : ((K.length : Int) == (n : Int)) = true := by rw [beq_iff_eq]; omega
          have htt : (s == s) = true := by simp
          obtain ⟨kn, hknn⟩ : ∃ m, K.length = m := ⟨_, rfl⟩
          rw [hknn] at hkn ⊢
          go_wp2_with fail
          go_returns
          exact ⟨by first | rfl | (simp [hkn]; done), hB6⟩
end Go.Proofs.Ytnochfnmkenemaa
