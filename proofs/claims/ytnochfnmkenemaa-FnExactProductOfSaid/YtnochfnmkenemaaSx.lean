import Derived.Test.YtnochfnmkenemaaSc
import Derived.Test.YtnochfnmkenemaaSh
import Derived.Test.YtnochfnmkenemaaL
namespace Go.Proofs.Ytnochfnmkenemaa
open Go Go.RowKit
attribute [local go_sem] World.cell?_alloc_some cell?_alloc2_some cell?_alloc3_some cell?_alloc4_some frozen?_alloc_some frozen?_alloc2_some frozen?_alloc3_some World.cell?_setCell_far new_ne0 new_ne1 new_ne2 new_ne3 lt2 lt3 lt4 lt5 lt6 lt7 lt8 lt9
attribute [local go_sem ↓] eqG neG

/-- An argument's row of numbers. -/
def IsPairs (W : World) (a : Option Addr) (len : Nat) (l : List (Int × Int)) : Prop := l.length = len ∧ len ≤ 9223372036854775807 ∧ (len ≠ 0 → ∃ g off, a = some ⟨g, off, none⟩ ∧ ∀ j x y, l[j]? = some (x, y) → W.cell? ⟨g, off + j * 2, none⟩ = some (.int .i64 x) ∧ W.cell? ⟨g, off + j * 2 + 1, none⟩ = some (.int .i64 y))
theorem IsPairs.below {W W' : World} {a : Option Addr} {len : Nat} {l : List (Int × Int)} (h : IsPairs W a len l) (hb : Below W.heap.size W W') : IsPairs W' a len l := by
  obtain ⟨h1, h2, h3⟩ := h
  refine ⟨h1, h2, fun hn => ?_⟩
  obtain ⟨g, off, e, hc⟩ := h3 hn
  exact ⟨g, off, e, fun j x y hj => ⟨keep hb (hc j x y hj).1, keep hb (hc j x y hj).2⟩⟩
theorem pairs_is {W : World} {x : Addr} {len : Nat} (hl : len ≤ 9223372036854775807) (h : ∀ i, i < len → ∃ b c : Int, W.cell? (x.add (i * 2)) = some (.int .i64 b) ∧ W.cell? (x.add (i * 2 + 1)) = some (.int .i64 c)) : ∃ zs, IsPairs W (some x) len zs := by
  obtain ⟨zs, h1, h2⟩ : ∃ zs : List (Int × Int), zs.length = len ∧ ∀ j b c, zs[j]? = some (b, c) → W.cell? (x.add (j * 2)) = some (.int .i64 b) ∧ W.cell? (x.add (j * 2 + 1)) = some (.int .i64 c) := by
    clear hl
    induction len with
    | zero => exact ⟨[], rfl, fun j b c hj => by simp at hj⟩
    | succ n ih =>
      obtain ⟨zs, h1, h2⟩ := ih fun i hi => h i (by omega)
      obtain ⟨b, c, e0, e1⟩ := h n (by omega)
      refine ⟨zs ++ [(b, c)], by simp [h1], fun j u v hj => ?_⟩
      by_cases hjn : j < n
      · rw [List.getElem?_append_left (by omega)] at hj
        exact h2 j u v hj
      · by_cases hje : j = n
        · subst hje
          rw [List.getElem?_append_right (by omega), h1, Nat.sub_self] at hj
          injection hj with hj
          injection hj with f0 f1
          subst f0 f1
          exact ⟨e0, e1⟩
        · rw [List.getElem?_eq_none (by simp; omega)] at hj; cases hj
  refine ⟨zs, h1, hl, fun hn => ?_⟩
  obtain ⟨⟨b, c⟩, hbc⟩ : ∃ q, zs[0]? = some q := ⟨_, List.getElem?_eq_getElem (by omega)⟩
  have hc0 := (h2 0 b c hbc).1
  obtain ⟨g, off, spot⟩ := x
  have hspot : spot = none := by simpa [Addr.add] using World.cell?_spot hc0
  subst hspot
  have hadd : ∀ n, (⟨g, off, none⟩ : Addr).add n = ⟨g, off + n, none⟩ := fun n => by
    unfold Addr.add
    by_cases h0 : n = 0
    · rw [if_pos h0, h0]; rfl
    · rw [if_neg h0]
  exact ⟨g, off, rfl, fun j u v hj => by
    have := h2 j u v hj
    rw [hadd, hadd] at this
    exact this⟩
/-- The first k of a list, laid into a row. -/
def TK (l : List (Int × Int)) (k : Nat) : List (Int × Int) := l.take k ++ List.replicate (l.length - k) (0, 0)
theorem TK.len {l : List (Int × Int)} {k : Nat} (h : k ≤ l.length) : (TK l k).length = l.length := by simp [TK]; omega
theorem TK.zero (l : List (Int × Int)) : TK l 0 = RepL (0, 0) l.length 0 := by simp [TK, RepL]
theorem TK.set {l : List (Int × Int)} {k : Nat} {z : Int × Int} (h : l[k]? = some z) : (TK l k).set k z = TK l (k + 1) := by
  obtain ⟨hk, -⟩ := List.getElem?_eq_some_iff.1 h
  unfold TK
  rw [List.set_append_right _ _ (by rw [List.length_take]; omega), List.length_take, Nat.min_eq_left (by omega), Nat.sub_self, show l.length - k = (l.length - (k + 1)) + 1 by omega, List.replicate_succ, List.set_cons_zero, List.take_add_one, h, List.append_assoc]
  rfl
theorem TK.all {l : List (Int × Int)} {k : Nat} (h : l.length ≤ k) : TK l k = l := by
  unfold TK
  rw [List.take_of_length_le h, Nat.sub_eq_zero_of_le h, List.replicate_zero, List.append_nil]

theorem szGaussS (a : Option Addr) (len cap : Nat) (w : World) (h : len ≤ 9223372036854775807) :
    Calls Try.prog 36 #[.slice a len cap, .int .i64 1048576] w fun e w' => e = .returned (.int .i64 (if 1048576 < len then -1 else 1048576 - (len : Int))) ∧ Below w.heap.size w w' := by
  by_cases hl : 1048576 < len
  · have hd : decide ((1048576 : Int) - (len : Int) < 0) = true := decide_eq_true (by omega)
    rw [if_pos hl]
    go_enter Try.func36, Try.ntmps36
    go_wp2_with fail
    go_returns
    exact ⟨rfl, by (repeat' (first | (with_reducible exact Below.refl _ _) | (with_reducible refine Below.alloc ?_ ?_ _) | (with_reducible refine Below.drew ?_) | (with_reducible refine Below.setCell ?_ ?_ _) | (with_reducible refine Below.trans ?_ (Below.mono (by assumption) ?_)) | go_size))⟩
  · have hd : decide ((1048576 : Int) - (len : Int) < 0) = false := decide_eq_false (by omega)
    rw [if_neg hl]
    go_enter Try.func36, Try.ntmps36
    go_wp2_with fail
    go_returns
    exact ⟨rfl, by (repeat' (first | (with_reducible exact Below.refl _ _) | (with_reducible refine Below.alloc ?_ ?_ _) | (with_reducible refine Below.drew ?_) | (with_reducible refine Below.setCell ?_ ?_ _) | (with_reducible refine Below.trans ?_ (Below.mono (by assumption) ?_)) | go_size))⟩

set_option maxRecDepth 100000 in
set_option maxHeartbeats 8000000 in
theorem toGaussS (a : Option Addr) (len cap : Nat) (zs : List (Int × Int)) (w : World) (h : IsPairs w a len zs) (hl : len ≤ 1048576) :
    Calls Try.prog 37 #[.slice a len cap] w fun e w' => ∃ v, e = .returned v ∧ GS w' w.heap.size v zs ∧ Below w.heap.size w w' := by
  obtain ⟨i, hi, hz0, hz1, hz2⟩ := info_parts gauss_info
  obtain ⟨hn, -, hc⟩ := h
  go_enter Try.func37, Try.ntmps37
  go_wp2_with (at_make; refine wpList_make_full _ rfl _ _ 26 rfl w.heap.size 24 i _ 2 Try.underlying26 hi hz0 hz1 _ _ _ _ len rfl rfl (by simp) (by simp) (by rw [hz2]; omega) (by unfold maxLen; omega) (Nat.le_refl _) ?_; intro w1 hown hgr; have hrow := row_made rfl hown (0, 0); have hb1 := below_grown hgr; clear hown hgr)
  have hg : GS w1 w.heap.size (.slice (some ⟨w.heap.size, 0, none⟩) len len) (TK zs 0) := by
    rw [TK.zero, hn]
    have := hrow.gs (Nat.le_refl _) (by rw [rep_len (Nat.zero_le _)]; omega)
    rwa [rep_len (Nat.zero_le _)] at this
  clear hrow hi hz0 hz1 hz2
  go_wp2_with fail
  go_loopw [4] (fun u wr => ∃ k : Nat, u = .int .i64 (k : Int) ∧ k ≤ len ∧ GS wr w.heap.size (.slice (some ⟨w.heap.size, 0, none⟩) len len) (TK zs k) ∧ Below w.heap.size w wr) (fun u _ => len - (intOf u).toNat)
  case atStart => exact ⟨0, rfl, Nat.zero_le _, hg, hb1⟩
  case round =>
    clear hg hb1
    obtain ⟨k, rfl, hk, hg, hb⟩ := hrel
    by_cases hlt : k < len
    · have hd : decide ((k : Int) < (len : Int)) = true := decide_eq_true (by omega)
      obtain ⟨⟨x, y⟩, hxy⟩ : ∃ q, zs[k]? = some q := ⟨_, List.getElem?_eq_getElem (by omega)⟩
      obtain ⟨g0, off, rfl, hcc⟩ := hc (by omega)
      obtain ⟨c0, c1⟩ := hcc k x y hxy
      have l0 := keep hb c0
      have l1 := keep hb c1
      have hset := TK.set hxy
      have hsb := hb.size
      clear c0 c1 hcc hc
      go_wp2_with fail
      (refine (toGauss x y _).mono ?_; rintro e w5 ⟨rfl, hb5⟩; have hz5 := hb5.size; (repeat (first | rw [World.size_alloc] at hz5 | rw [World.size_setCell] at hz5 | rw [World.size_drew] at hz5)))
      have hg5 := hg.below hb5
      have hB5 : Below w.heap.size w w5 := hb.trans (hb5.mono hsb)
      have hkl : (TK zs k).length = len := by rw [TK.len (by omega), hn]
      have hne : TK zs k ≠ [] := by intro e; rw [e] at hkl; simp at hkl; omega
      obtain ⟨g, cap', e, hbg, hgl, hA, hfz⟩ := hg5.at hne
      rw [hkl] at e
      injection e with e1 e2 e3
      injection e1 with e1
      injection e1 with e1
      subst e1 e3
      obtain ⟨⟨u, v⟩, huv⟩ : ∃ q, (TK zs k)[k]? = some q := ⟨_, List.getElem?_eq_getElem (by omega)⟩
      obtain ⟨d0, d1⟩ := hA k u v huv
      have f0 := hfz (k * 2)
      have f1 := hfz (k * 2 + 1)
      have hp := GS.put (W := w5) (base := w.heap.size) (g := w.heap.size) (l := TK zs k) (cap := len) (by rw [hkl]; exact hg5) k (by omega) x y
      rw [hset, hkl] at hp
      clear hA hfz huv hxy hset hg hg5 hb hb5 hkl hne l0 l1
      go_wp2_with fail
      go_roundw
      case rel => exact ⟨k + 1, by simp, by omega, hp, (hB5.setCell (Nat.le_refl _) _).setCell (Nat.le_refl _) _⟩
      case measure => simp [intOf]; omega
    · have hd : decide ((k : Int) < (len : Int)) = false := decide_eq_false (by omega)
      rw [TK.all (by omega)] at hg
      go_wp2_with fail
      go_returns
      exact ⟨_, rfl, hg, hb⟩

set_option maxHeartbeats 2000000 in
theorem eqGaussS2 (v v' : Value) (b b' : Nat) (l : List (Int × Int)) (w : World) (h : GS w b v l) (h' : GS w b' v' l) (hl : l.length ≤ 1048576) :
    Calls Try.prog 33 #[v, v'] w fun e w' => e = .returned (.bool true) ∧ Below w.heap.size w w' := by
  obtain ⟨a, cap, rfl, ha⟩ := h.form
  obtain ⟨a', cap', rfl, ha'⟩ := h'.form
  clear h h'
  go_enter Try.func33, Try.ntmps33
  go_wp2_with fail
  go_loopw [5] (fun u wr => ∃ k : Nat, u = .int .i64 (k : Int) ∧ k ≤ l.length ∧ Below w.heap.size w wr) (fun u _ => l.length - (intOf u).toNat)
  case atStart => exact ⟨0, rfl, Nat.zero_le _, by (repeat' (first | (with_reducible exact Below.refl _ _) | (with_reducible refine Below.alloc ?_ ?_ _) | (with_reducible refine Below.drew ?_) | (with_reducible refine Below.setCell ?_ ?_ _) | (with_reducible refine Below.trans ?_ (Below.mono (by assumption) ?_)) | go_size))⟩
  case round =>
    obtain ⟨k, rfl, hk, hb⟩ := hrel
    by_cases hlt : k < l.length
    · have hd : decide ((k : Int) < (l.length : Int)) = true := decide_eq_true (by omega)
      obtain ⟨⟨x, y⟩, hxy⟩ : ∃ q, l[k]? = some q := ⟨_, List.getElem?_eq_getElem hlt⟩
      have hne : l ≠ [] := by rintro rfl; simp at hlt
      obtain ⟨g, rfl, -, hg, hA, -⟩ := ha hne
      obtain ⟨g', rfl, -, hg', hA', -⟩ := ha' hne
      obtain ⟨c0, c1⟩ := hA k x y hxy
      obtain ⟨c2, c3⟩ := hA' k x y hxy
      have d0 := keep hb c0
      have d1 := keep hb c1
      have d2 := keep hb c2
      have d3 := keep hb c3
      clear c0 c1 c2 c3 hA hA' ha ha'
      go_wp2_with fail
      refine wp_name ?_
      intro w6 hbw6
      have d0_a := keep hbw6 d0
      have d0_r := cell_regrown d0_a
      have d1_a := keep hbw6 d1
      have d1_r := cell_regrown d1_a
      have d2_a := keep hbw6 d2
      have d2_r := cell_regrown d2_a
      have d3_a := keep hbw6 d3
      have d3_r := cell_regrown d3_a
      clear d0 d1 d2 d3
      refine wp_region_quiet_below (by kernel_rfl) (by kernel_rfl) ?_
      (repeat (first | go_big_quiet_step ((first | (go_at_call 38; exact Calls.regrown_of (eqGauss_t _ _ _)))) | quiet_step ((first | (go_at_call 38; exact Calls.regrown_of (eqGauss_t _ _ _))))))
      refine wpQuiet_nil ?_
      intro w7 hww7
      have hbw7 := below_of_regrown hww7
      clear hww7
      have d0 := keep hbw7 d0_a
      have d1 := keep hbw7 d1_a
      have d2 := keep hbw7 d2_a
      have d3 := keep hbw7 d3_a
      clear d0_a d0_r d1_a d1_r d2_a d2_r d3_a d3_r
      go_wp2_with fail
      go_roundw
      case rel => exact ⟨k + 1, by simp, by omega, (hb.trans (hbw6.mono hb.size)).trans (hbw7.mono (by have := hb.size; have := hbw6.size; omega))⟩
      case measure => simp [intOf]; omega
    · have hd : decide ((k : Int) < (l.length : Int)) = false := decide_eq_false (by omega)
      go_wp2_with fail
      go_returns
      exact ⟨rfl, hb⟩

set_option maxHeartbeats 8000000 in
theorem walkFnExactProductOf (t : Int) (a : Option Addr) (len cap : Nat) (L : List (Int × Int)) (w : World) (_w0 : (Lit.int .i64 t).wf = true) (h : IsPairs w a len L) :
    Calls Try.prog 8 #[.int .i64 t, .slice a len cap] w fun e w' => e = .returned (.bool true) ∧ Below w.heap.size w w' := by
  clear _w0
  have H := Lib.hid h
  obtain ⟨hn, hmax, -⟩ := h
  by_cases hl : 1048576 < len
  · go_enter Try.func8, Try.ntmps8
    go_wp2_with fail
    (refine (szGaussS a len cap _ hmax).mono ?_; rintro e w1 ⟨rfl, hb1⟩; have hz1 := hb1.size; (repeat (first | rw [World.size_alloc] at hz1 | rw [World.size_setCell] at hz1 | rw [World.size_drew] at hz1)))
    rw [if_pos hl]
    go_wp2_with fail
    go_returns
    exact ⟨rfl, by (repeat' (first | (with_reducible exact Below.refl _ _) | (with_reducible refine Below.alloc ?_ ?_ _) | (with_reducible refine Below.drew ?_) | (with_reducible refine Below.setCell ?_ ?_ _) | (with_reducible refine Below.trans ?_ (Below.mono (by assumption) ?_)) | go_size))⟩
  have hle : len ≤ 1048576 := by omega
  have hd : decide ((1048576 : Int) - (len : Int) < 0) = false := decide_eq_false (by omega)
  obtain ⟨r, hr⟩ : ∃ r, pdR t L = r := ⟨_, rfl⟩
  obtain ⟨rx, hrx⟩ : ∃ rx, (r.getD (0, 0)).1 = rx := ⟨_, rfl⟩
  obtain ⟨ry, hry⟩ : ∃ ry, (r.getD (0, 0)).2 = ry := ⟨_, rfl⟩
  obtain ⟨ro, hro⟩ : ∃ ro, r.isSome = ro := ⟨_, rfl⟩
  have hI : ∀ W v, LR W v L → Calls Try.prog 19 #[.int .i64 t, v] W fun e w' => e = .returned (.tuple #[.agg #[.int .i64 rx, .int .i64 ry], .bool ro]) ∧ Below W.heap.size W w' := fun W v hW => by
    have := iProductOf t L v W hW
    rw [hr, rT, hrx, hry, hro] at this; exact this
  have hS : ∀ W v, LR W v L → Calls Try.prog 23 #[.int .i64 t, v] W fun e w' => e = .returned (.tuple #[.agg #[.int .i64 rx, .int .i64 ry], .bool ro]) ∧ Below W.heap.size W w' := fun W v hW => by
    have := sProductOf t L v W hW
    rw [hr, rT, hrx, hry, hro] at this; exact this
  clear hr hrx hry hro
  have hxo : (ro != ro) = false := by cases ro <;> rfl
  go_enter Try.func8, Try.ntmps8
  go_wp2_with fail
  (refine (szGaussS a len cap _ hmax).mono ?_; rintro e w1 ⟨rfl, hb1⟩; have hz1 := hb1.size; (repeat (first | rw [World.size_alloc] at hz1 | rw [World.size_setCell] at hz1 | rw [World.size_drew] at hz1)))
  rw [if_neg hl]
  go_wp2_with fail
  (refine (toGaussS a len cap L _ (H.out.below hb1) hle).mono ?_; rintro e w2 ⟨v0, rfl, g0, hb2⟩; have hz2 := hb2.size; (repeat (first | rw [World.size_alloc] at hz2 | rw [World.size_setCell] at hz2 | rw [World.size_drew] at hz2)))
  have hB2 : Below w.heap.size w w2 := by (repeat' (first | (with_reducible exact Below.refl _ _) | (with_reducible refine Below.alloc ?_ ?_ _) | (with_reducible refine Below.drew ?_) | (with_reducible refine Below.setCell ?_ ?_ _) | (with_reducible refine Below.trans ?_ (Below.mono (by assumption) ?_)) | go_size))
  go_wp2_with fail
  (refine (hS _ v0 g0.lr).mono ?_; rintro e w3 ⟨rfl, hb3⟩; have hz3 := hb3.size; (repeat (first | rw [World.size_alloc] at hz3 | rw [World.size_setCell] at hz3 | rw [World.size_drew] at hz3)))
  have hB3 : Below w.heap.size w w3 := hB2.trans (hb3.mono hB2.size)
  have hs3 := hB3.size
  clear g0 hS
  go_wp2_with fail
  (refine (toGaussS a len cap L _ (H.out.below (by (repeat' (first | (with_reducible exact Below.refl _ _) | (with_reducible refine Below.alloc ?_ ?_ _) | (with_reducible refine Below.drew ?_) | (with_reducible refine Below.setCell ?_ ?_ _) | (with_reducible refine Below.trans ?_ (Below.mono (by assumption) ?_)) | go_size)))) hle).mono ?_; rintro e w4 ⟨v1, rfl, g1, hb4⟩; have hz4 := hb4.size; (repeat (first | rw [World.size_alloc] at hz4 | rw [World.size_setCell] at hz4 | rw [World.size_drew] at hz4)); have pp := C2.K hb4 (b := w3.heap.size) (x := _) (y := _) (by (repeat (first | ((with_reducible apply C2.mk) <;> (with_reducible assumption)) | (with_reducible apply C2.Z) | (with_reducible apply C2.O) | ((with_reducible apply C2.B); (focus (simp; done))) | (with_reducible apply C2.A) | (with_reducible apply C2.D) | ((with_reducible apply C2.S); focus ((repeat (first | rw [World.size_alloc] | rw [World.size_setCell] | rw [World.size_drew])); omega)) | ((with_reducible apply C2.K); (focus (with_reducible assumption)))))); obtain ⟨kk1, kk2⟩ := pp)
  go_wp2_with fail
  (refine (hI _ v1 g1.lr).mono ?_; rintro e w5 ⟨rfl, hb5⟩; have hz5 := hb5.size; (repeat (first | rw [World.size_alloc] at hz5 | rw [World.size_setCell] at hz5 | rw [World.size_drew] at hz5)); have pp := C2.K hb5 (b := w3.heap.size) (x := _) (y := _) (by (repeat (first | ((with_reducible apply C2.mk) <;> (with_reducible assumption)) | (with_reducible apply C2.Z) | (with_reducible apply C2.O) | ((with_reducible apply C2.B); (focus (simp; done))) | (with_reducible apply C2.A) | (with_reducible apply C2.D) | ((with_reducible apply C2.S); focus ((repeat (first | rw [World.size_alloc] | rw [World.size_setCell] | rw [World.size_drew])); omega)) | ((with_reducible apply C2.K); (focus (with_reducible assumption)))))); obtain ⟨kk3, kk4⟩ := pp; (try clear kk1 kk2))
  have k1 := g1.below hb5
  have hB4 : Below w.heap.size w w4 := hB3.trans ((show Below w3.heap.size w3 w4 by (repeat' (first | (with_reducible exact Below.refl _ _) | (with_reducible refine Below.alloc ?_ ?_ _) | (with_reducible refine Below.drew ?_) | (with_reducible refine Below.setCell ?_ ?_ _) | (with_reducible refine Below.trans ?_ (Below.mono (by assumption) ?_)) | go_size))).mono hs3)
  have hB5 : Below w.heap.size w w5 := hB4.trans (hb5.mono hB4.size)
  have hs5 := hB5.size
  clear g1 hI
  go_wp2_with fail
  (refine (eqGauss_t rx ry _).mono ?_; rintro e w6 ⟨rfl, hb6⟩; have hz6 := hb6.size; (repeat (first | rw [World.size_alloc] at hz6 | rw [World.size_setCell] at hz6 | rw [World.size_drew] at hz6)); (try clear kk3 kk4))
  have hb56 : Below w5.heap.size w5 w6 := by (repeat' (first | (with_reducible exact Below.refl _ _) | (with_reducible refine Below.alloc ?_ ?_ _) | (with_reducible refine Below.drew ?_) | (with_reducible refine Below.setCell ?_ ?_ _) | (with_reducible refine Below.trans ?_ (Below.mono (by assumption) ?_)) | go_size))
  have k2 := k1.below hb56
  have hB6 : Below w.heap.size w w6 := hB5.trans (hb56.mono hs5)
  clear k1
  go_wp2_with fail
  (refine (toGaussS a len cap L _ (H.out.below hB6) hle).mono ?_; rintro e w7 ⟨v2, rfl, g2, hb7⟩; have hz7 := hb7.size; (repeat (first | rw [World.size_alloc] at hz7 | rw [World.size_setCell] at hz7 | rw [World.size_drew] at hz7)))
  have k3 := k2.below hb7
  have hB7 : Below w.heap.size w w7 := hB6.trans (hb7.mono hB6.size)
  clear k2
  go_wp2_with fail
  (refine (eqGaussS2 _ _ _ _ L _ k3 g2 (by omega)).mono ?_; rintro e w8 ⟨rfl, hb8⟩; have hz8 := hb8.size; (repeat (first | rw [World.size_alloc] at hz8 | rw [World.size_setCell] at hz8 | rw [World.size_drew] at hz8)))
  go_wp2_with fail
  go_returns
  exact ⟨rfl, hB7.trans (hb8.mono hB7.size)⟩
end Go.Proofs.Ytnochfnmkenemaa
