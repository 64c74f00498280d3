import Derived.Test.YtnochfnmkenemaaSr
import Derived.Test.YtnochfnmkenemaaSq
import Derived.Test.YtnochfnmkenemaaSb
import Derived.Test.YtnochfnmkenemaaR
namespace Go.Proofs.Ytnochfnmkenemaa
open Go Go.RowKit
attribute [local go_sem] World.cell?_alloc_some cell?_alloc2_some cell?_alloc3_some cell?_alloc4_some frozen?_alloc_some frozen?_alloc2_some frozen?_alloc3_some World.cell?_setCell_far new_ne0 new_ne1 new_ne2 new_ne3 lt2 lt3 lt4 lt5 lt6 lt7 lt8 lt9
attribute [local go_sem ↓] eqG neG

theorem FacIs.facs {a b t : Int} {l : List (Int × Int)} (h : FacIs a b true t l) : Facs (a, b) t l ∧ faO a b = true := ⟨h.2.2 rfl, h.1.symm⟩
/-- How often each of its primes is in a number. -/
theorem FacIs.often {a b t : Int} {l : List (Int × Int)} (h : FacIs a b true t l) {p : Int × Int} (hp : p ∈ l) : OfIs a b p.1 p.2 (l.count p) := by
  obtain ⟨hf, ho⟩ := h.facs
  have hq := hf.pr p hp
  obtain ⟨n, hn⟩ := of_is a b p.1 p.2
  have hO : ofO a b p.1 p.2 = true := by
    unfold ofO
    unfold faO at ho
    rw [ho, hq.1]; rfl
  have := hn.yes hO (hf.vl hq)
  rw [← this]; exact hn
theorem adj_count {a b t : Int} {l : List (Int × Int)} (h : FacIs a b true t l) : NoAdj l ↔ ∀ p ∈ l, l.count p = 1 := once_each h.facs.1
/-- A unit is without squares. -/
theorem sq_i : SqIs 0 1 true := by
  refine ⟨true, 1, [], ⟨rfl, fun h => (by cases h), fun _ => ⟨by omega, by omega, fun p h => absurd h List.not_mem_nil, List.Pairwise.nil, by decide⟩⟩, ?_⟩
  exact ⟨fun _ => ⟨rfl, fun k q h => by simp at h⟩, fun _ => rfl⟩
/-- Turned over it is so as before. -/
theorem sq_over {a b : Int} {o : Bool} {t : Int} {l : List (Int × Int)} (h : SqIs a b o) (hF : FacIs a b true t l) : SqIs a (-b) o := by
  obtain ⟨hf, ho⟩ := hF.facs
  obtain ⟨k, hz, hnz⟩ := faO_is ho
  have hb := gok_bd k
  have ho' : faO a (-b) = true := by
    have k' : gok a (-b) = true := by simp [gok, pok]; omega
    unfold faO
    rw [k']
    simp
    omega
  obtain ⟨o', s, m, hF'⟩ := fac_is a (-b)
  have e : o' = true := hF'.1.trans ho'
  subst e
  refine ⟨true, s, m, hF', ?_⟩
  have h1 := (h.of hF)
  have h2 := conj_square (z := (a, b)) hf (k := m) (s := s) hF'.facs.1
  have h3 : ∀ (z : Int × Int) (u : Int) (n : List (Int × Int)), Facs z u n → (NoAdj n ↔ ∀ p, n.count p ≤ 1) := fun z u n hn => side_by_side hn.pr hn.sorted
  rw [h1, h3 _ _ _ hf, h3 _ _ _ hF'.facs.1, h2]

set_option maxHeartbeats 8000000 in
theorem walkFnSquareFreeOk (a : Option Addr) (len cap : Nat) (zs : List Int) (w : World) (h : IsRow .u8 w a len cap zs) :
    Calls Try.prog 6 #[.slice a len cap] w fun e w' => e = .returned (.bool true) ∧ Below w.heap.size w w' := by
  by_cases hl : 1048576 < len
  · clear h
    go_enter Try.func6, Try.ntmps6
    go_wp2_with fail
    go_returns
    exact ⟨rfl, by (repeat' (first | (with_reducible exact Below.refl _ _) | (with_reducible refine Below.alloc ?_ ?_ _) | (with_reducible refine Below.drew ?_) | (with_reducible refine Below.setCell ?_ ?_ _) | (with_reducible refine Below.trans ?_ (Below.mono (by assumption) ?_)) | go_size))⟩
  have H := Lib.hid h
  clear h
  go_enter Try.func6, Try.ntmps6
  go_wp2_with fail
  (refine (drawSquareFreeOk a len cap zs _ H.out).mono ?_; rintro e w1 ⟨x, y, rfl, hb1⟩; have hz1 := hb1.size; (repeat (first | rw [World.size_alloc] at hz1 | rw [World.size_setCell] at hz1 | rw [World.size_drew] at hz1)))
  obtain ⟨o, hq⟩ := sq_is x y
  obtain ⟨o', t, L, hF⟩ := fac_is x y
  have hoo := hq.of hF
  go_wp2_with fail
  (refine (iSquareFreeOk_v _ hq).mono ?_; rintro e w2 ⟨rfl, hb2⟩; have hz2 := hb2.size; (repeat (first | rw [World.size_alloc] at hz2 | rw [World.size_setCell] at hz2 | rw [World.size_drew] at hz2)); have pp := C2.K hb2 (b := w1.heap.size) (x := _) (y := _) (by (repeat (first | ((with_reducible apply C2.mk) <;> (with_reducible assumption)) | (with_reducible apply C2.Z) | (with_reducible apply C2.O) | ((with_reducible apply C2.B); (focus (simp; done))) | (with_reducible apply C2.A) | (with_reducible apply C2.D) | ((with_reducible apply C2.S); focus ((repeat (first | rw [World.size_alloc] | rw [World.size_setCell] | rw [World.size_drew])); omega)) | ((with_reducible apply C2.K); (focus (with_reducible assumption)))))); obtain ⟨kk1, kk2⟩ := pp)
  go_wp2_with fail
  (refine (sSquareFreeOk_v _ hq).mono ?_; rintro e w3 ⟨rfl, hb3⟩; have hz3 := hb3.size; (repeat (first | rw [World.size_alloc] at hz3 | rw [World.size_setCell] at hz3 | rw [World.size_drew] at hz3)); have pp := C2.K hb3 (b := w1.heap.size) (x := _) (y := _) (by (repeat (first | ((with_reducible apply C2.mk) <;> (with_reducible assumption)) | (with_reducible apply C2.Z) | (with_reducible apply C2.O) | ((with_reducible apply C2.B); (focus (simp; done))) | (with_reducible apply C2.A) | (with_reducible apply C2.D) | ((with_reducible apply C2.S); focus ((repeat (first | rw [World.size_alloc] | rw [World.size_setCell] | rw [World.size_drew])); omega)) | ((with_reducible apply C2.K); (focus (with_reducible assumption)))))); obtain ⟨kk3, kk4⟩ := pp; (try clear kk1 kk2))
  have hxo : (o != o) = false := by cases o <;> rfl
  go_wp2_with fail
  (refine (iFactorsOf_v _ hF).mono ?_; rintro e w4 ⟨v, rfl, hg, hb4⟩; have hz4 := hb4.size; (repeat (first | rw [World.size_alloc] at hz4 | rw [World.size_setCell] at hz4 | rw [World.size_drew] at hz4)); have pp := C2.K hb4 (b := w1.heap.size) (x := _) (y := _) (by (repeat (first | ((with_reducible apply C2.mk) <;> (with_reducible assumption)) | (with_reducible apply C2.Z) | (with_reducible apply C2.O) | ((with_reducible apply C2.B); (focus (simp; done))) | (with_reducible apply C2.A) | (with_reducible apply C2.D) | ((with_reducible apply C2.S); focus ((repeat (first | rw [World.size_alloc] | rw [World.size_setCell] | rw [World.size_drew])); omega)) | ((with_reducible apply C2.K); (focus (with_reducible assumption)))))); obtain ⟨kk5, kk6⟩ := pp; (try clear kk3 kk4))
  have hlen := hF.len
  have hB4 : Below w.heap.size w w4 := by (repeat' (first | (with_reducible exact Below.refl _ _) | (with_reducible refine Below.alloc ?_ ?_ _) | (with_reducible refine Below.drew ?_) | (with_reducible refine Below.setCell ?_ ?_ _) | (with_reducible refine Below.trans ?_ (Below.mono (by assumption) ?_)) | go_size))
  have hs1 : w1.heap.size < w4.heap.size := by omega
  have z0 : w4.cell? ⟨w1.heap.size, 0, none⟩ = some (.int .i64 x) := by (repeat (first | (with_reducible assumption) | (with_reducible apply sameS) | ((with_reducible apply born); (focus (simp; done)); (focus rfl)) | (with_reducible apply keepA) | (with_reducible apply keepD) | ((with_reducible apply keepS); focus ((repeat (first | rw [World.size_alloc] | rw [World.size_setCell] | rw [World.size_drew])); omega)) | ((with_reducible apply keep); (focus (with_reducible assumption)))))
  have z1 : w4.cell? ⟨w1.heap.size, 1, none⟩ = some (.int .i64 y) := by (repeat (first | (with_reducible assumption) | (with_reducible apply sameS) | ((with_reducible apply born); (focus (simp; done)); (focus rfl)) | (with_reducible apply keepA) | (with_reducible apply keepD) | ((with_reducible apply keepS); focus ((repeat (first | rw [World.size_alloc] | rw [World.size_setCell] | rw [World.size_drew])); omega)) | ((with_reducible apply keep); (focus (with_reducible assumption)))))
  obtain ⟨av, cv, rfl, ha⟩ := hg.form
  clear hg hb1 hb2 hb3 hb4 hz1 hz2 hz3 hz4 hxo
  obtain ⟨n, hn⟩ : ∃ n, L.length = n := ⟨_, rfl⟩
  rw [hn] at hlen ⊢
  go_wp2_with fail
  go_loopw [8, 9] (fun b u wr => ∃ (k : Nat) (c : Bool), b = .bool c ∧ u = .int .i64 (k : Int) ∧ k ≤ n ∧ (c = true ↔ o' = true ∧ ∀ p ∈ L.take k, L.count p = 1) ∧ Below w4.heap.size w4 wr) (fun _ u _ => n - (intOf u).toNat)
  case atStart => exact ⟨0, o', rfl, rfl, Nat.zero_le _, ⟨fun h => ⟨h, fun p hp => (by rw [List.take_zero] at hp; exact absurd hp List.not_mem_nil)⟩, fun h => h.1⟩, Below.refl _ _⟩
  case round =>
    obtain ⟨k, c, rfl, rfl, hk, hc, hb⟩ := hrel
    by_cases hlt : k < n
    · have hd : decide ((k : Int) < (n : Int)) = true := decide_eq_true (by omega)
      have hne : L ≠ [] := by rintro rfl; simp at hn; omega
      have ho1 : o' = true := by
        cases o'
        · exact absurd (hF.2.1 rfl).2 hne
        · rfl
      subst ho1
      obtain ⟨g, rfl, -, hgl, hA, -⟩ := ha hne
      obtain ⟨⟨p, q⟩, hpq⟩ : ∃ q, L[k]? = some q := ⟨_, List.getElem?_eq_getElem (by omega)⟩
      have hOf := hF.often (List.mem_of_getElem? hpq)
      obtain ⟨m, hm⟩ : ∃ m : Nat, L.count (p, q) = m := ⟨_, rfl⟩
      rw [hm] at hOf
      dsimp only at hOf
      obtain ⟨c0, c1⟩ := hA k p q hpq
      have l0 := keep hb c0
      have l1 := keep hb c1
      have y0 := keep hb z0
      have y1 := keep hb z1
      have htk : L.take (k + 1) = L.take k ++ [(p, q)] := by rw [List.take_add_one, hpq]; rfl
      have hnext : ∀ c' : Bool, (c' = true ↔ c = true ∧ m = 1) → (c' = true ↔ true = true ∧ ∀ r ∈ L.take (k + 1), L.count r = 1) := fun c' h => by
        rw [h, hc, htk]
        constructor
        · rintro ⟨⟨-, h1⟩, h2⟩
          refine ⟨rfl, fun r hr => ?_⟩
          rcases List.mem_append.1 hr with h' | h'
          · exact h1 r h'
          · rw [List.mem_singleton.1 h', hm]; exact h2
        · rintro ⟨-, h1⟩
          refine ⟨⟨rfl, fun r hr => h1 r (List.mem_append_left _ hr)⟩, ?_⟩
          rw [← hm]
          exact h1 _ (List.mem_append_right _ (List.mem_singleton_self _))
      clear c0 c1 hA ha hc hpq htk hm
      cases c
      · have hn' := hnext false (by simp)
        clear hnext hOf
        go_upto_region 12 with fail
        refine wp_name ?_
        intro wA hbwA
        have l0_a := keep hbwA l0
        have l0_r := cell_regrown l0_a
        have l1_a := keep hbwA l1
        have l1_r := cell_regrown l1_a
        have y0_a := keep hbwA y0
        have y0_r := cell_regrown y0_a
        have y1_a := keep hbwA y1
        have y1_r := cell_regrown y1_a
        clear l0 l1 y0 y1
        refine wp_region_quiet_below (by kernel_rfl) (by kernel_rfl) ?_
        (repeat (first | go_big_quiet_step (fail) | quiet_step (fail)))
        refine wpQuiet_nil ?_
        intro wB hwwB
        have hbwB := below_of_regrown hwwB
        clear hwwB
        have l0 := keep hbwB l0_a
        have l1 := keep hbwB l1_a
        have y0 := keep hbwB y0_a
        have y1 := keep hbwB y1_a
        clear l0_a l0_r l1_a l1_r y0_a y0_r y1_a y1_r
        have hbB : Below w4.heap.size w4 wB := (hb.trans (hbwA.mono hb.size)).trans (hbwB.mono (by have := hb.size; have := hbwA.size; omega))
        go_wp2_with fail
        go_roundw
        case rel => exact ⟨k + 1, false, rfl, by simp, by omega, by simpa using hn', hbB⟩
        case measure => simp [intOf]; omega
      · have hn' := hnext (decide (m = 1)) (by simp)
        have hm1 : ((m : Int) == 1) = decide (m = 1) := by
          by_cases h : m = 1
          · subst h; rfl
          · rw [decide_eq_false h, beq_eq_false_iff_ne]; omega
        clear hnext
        go_upto_region 12 with fail
        refine wp_name ?_
        intro wA hbwA
        have l0_a := keep hbwA l0
        have l0_r := cell_regrown l0_a
        have l1_a := keep hbwA l1
        have l1_r := cell_regrown l1_a
        have y0_a := keep hbwA y0
        have y0_r := cell_regrown y0_a
        have y1_a := keep hbwA y1
        have y1_r := cell_regrown y1_a
        clear l0 l1 y0 y1
        refine wp_region_quiet_below (by kernel_rfl) (by kernel_rfl) ?_
        (repeat (first | go_big_quiet_step ((first | (go_at_call 26; exact Calls.regrown_of (iOftenOf_v _ hOf)))) | quiet_step ((first | (go_at_call 26; exact Calls.regrown_of (iOftenOf_v _ hOf))))))
        refine wpQuiet_nil ?_
        intro wB hwwB
        have hbwB := below_of_regrown hwwB
        clear hwwB
        have l0 := keep hbwB l0_a
        have l1 := keep hbwB l1_a
        have y0 := keep hbwB y0_a
        have y1 := keep hbwB y1_a
        clear l0_a l0_r l1_a l1_r y0_a y0_r y1_a y1_r
        have hbB : Below w4.heap.size w4 wB := (hb.trans (hbwA.mono hb.size)).trans (hbwB.mono (by have := hb.size; have := hbwA.size; omega))
        go_wp2_with fail
        go_roundw
        case rel => exact ⟨k + 1, decide (m = 1), rfl, by simp, by omega, by simpa using hn', hbB⟩
        case measure => simp [intOf]; omega
    · have hd : decide ((k : Int) < (n : Int)) = false := decide_eq_false (by omega)
      have hco : c = o := by
        have h1 : o = true ↔ c = true := by
          rw [hoo, hc]
          cases o'
          · simp
          · rw [adj_count hF, List.take_of_length_le (by omega)]
        cases c <;> cases o <;> simp at h1 ⊢
      subst hco
      have y0 := keep hb z0
      have y1 := keep hb z1
      have hsb := hb.size
      have hxc : (c == c) = true := by cases c <;> rfl
      have hBr : Below w.heap.size w wr := hB4.trans (hb.mono hB4.size)
      have hsr := hBr.size
      clear hc hoo
      cases o'
      · go_wp2_with fail
        (refine (iSquareFreeOk_v _ sq_i).mono ?_; rintro e w5 ⟨rfl, hb5⟩; have hz5 := hb5.size; (repeat (first | rw [World.size_alloc] at hz5 | rw [World.size_setCell] at hz5 | rw [World.size_drew] at hz5)); have pp := C2.K hb5 (b := w1.heap.size) (x := _) (y := _) (by (repeat (first | ((with_reducible apply C2.mk) <;> (with_reducible assumption)) | (with_reducible apply C2.Z) | (with_reducible apply C2.O) | ((with_reducible apply C2.B); (focus (simp; done))) | (with_reducible apply C2.A) | (with_reducible apply C2.D) | ((with_reducible apply C2.S); focus ((repeat (first | rw [World.size_alloc] | rw [World.size_setCell] | rw [World.size_drew])); omega)) | ((with_reducible apply C2.K); (focus (with_reducible assumption)))))); obtain ⟨kk7, kk8⟩ := pp; (try clear kk5 kk6))
        go_wp2_with fail
        (refine (alive _).mono ?_; rintro e w6 ⟨rfl, hb6⟩; have hz6 := hb6.size; (repeat (first | rw [World.size_alloc] at hz6 | rw [World.size_setCell] at hz6 | rw [World.size_drew] at hz6)); (try clear kk7 kk8))
        go_wp2_with fail
        go_returns
        exact ⟨rfl, (hBr.trans (hb5.mono hsr)).trans (hb6.mono (by omega))⟩
      · have hsq := sq_over hq hF
        obtain ⟨kxy, -, -⟩ := faO_is hF.facs.2
        have ov1 : ovA x y = x := by simp [ovA, kxy]
        have ov2 : ovB x y = -y := by simp [ovB, kxy]
        go_wp2_with fail
        (refine (iSquareFreeOk_v _ sq_i).mono ?_; rintro e w5 ⟨rfl, hb5⟩; have hz5 := hb5.size; (repeat (first | rw [World.size_alloc] at hz5 | rw [World.size_setCell] at hz5 | rw [World.size_drew] at hz5)); have pp := C2.K hb5 (b := w1.heap.size) (x := _) (y := _) (by (repeat (first | ((with_reducible apply C2.mk) <;> (with_reducible assumption)) | (with_reducible apply C2.Z) | (with_reducible apply C2.O) | ((with_reducible apply C2.B); (focus (simp; done))) | (with_reducible apply C2.A) | (with_reducible apply C2.D) | ((with_reducible apply C2.S); focus ((repeat (first | rw [World.size_alloc] | rw [World.size_setCell] | rw [World.size_drew])); omega)) | ((with_reducible apply C2.K); (focus (with_reducible assumption)))))); obtain ⟨kk9, kk10⟩ := pp)
        go_wp2_with fail
        (refine (iOverOf_v _ ⟨ov1, ov2⟩).mono ?_; rintro e w6 ⟨rfl, hb6⟩; have hz6 := hb6.size; (repeat (first | rw [World.size_alloc] at hz6 | rw [World.size_setCell] at hz6 | rw [World.size_drew] at hz6)); have pp := C2.K hb6 (b := w1.heap.size) (x := _) (y := _) (by (repeat (first | ((with_reducible apply C2.mk) <;> (with_reducible assumption)) | (with_reducible apply C2.Z) | (with_reducible apply C2.O) | ((with_reducible apply C2.B); (focus (simp; done))) | (with_reducible apply C2.A) | (with_reducible apply C2.D) | ((with_reducible apply C2.S); focus ((repeat (first | rw [World.size_alloc] | rw [World.size_setCell] | rw [World.size_drew])); omega)) | ((with_reducible apply C2.K); (focus (with_reducible assumption)))))); obtain ⟨kk11, kk12⟩ := pp; (try clear kk9 kk10))
        go_wp2_with fail
        (refine (iSquareFreeOk_v _ hsq).mono ?_; rintro e w7 ⟨rfl, hb7⟩; have hz7 := hb7.size; (repeat (first | rw [World.size_alloc] at hz7 | rw [World.size_setCell] at hz7 | rw [World.size_drew] at hz7)); have pp := C2.K hb7 (b := w1.heap.size) (x := _) (y := _) (by (repeat (first | ((with_reducible apply C2.mk) <;> (with_reducible assumption)) | (with_reducible apply C2.Z) | (with_reducible apply C2.O) | ((with_reducible apply C2.B); (focus (simp; done))) | (with_reducible apply C2.A) | (with_reducible apply C2.D) | ((with_reducible apply C2.S); focus ((repeat (first | rw [World.size_alloc] | rw [World.size_setCell] | rw [World.size_drew])); omega)) | ((with_reducible apply C2.K); (focus (with_reducible assumption)))))); obtain ⟨kk13, kk14⟩ := pp; (try clear kk11 kk12))
        go_wp2_with fail
        (refine (alive _).mono ?_; rintro e w8 ⟨rfl, hb8⟩; have hz8 := hb8.size; (repeat (first | rw [World.size_alloc] at hz8 | rw [World.size_setCell] at hz8 | rw [World.size_drew] at hz8)); (try clear kk13 kk14))
        go_wp2_with fail
        go_returns
        exact ⟨rfl, (((hBr.trans (hb5.mono hsr)).trans (hb6.mono (by omega))).trans (hb7.mono (by omega))).trans (hb8.mono (by omega))⟩
end Go.Proofs.Ytnochfnmkenemaa
