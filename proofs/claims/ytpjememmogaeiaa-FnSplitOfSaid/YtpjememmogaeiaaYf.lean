import Derived.Test.YtpjememmogaeiaaYd
import Derived.Test.YtpjememmogaeiaaOd
namespace Go.Proofs.Ytpjememmogaeiaa
open Go Go.RowKit Go.Shelf
attribute [local go_sem] World.cell?_alloc_some cell?_alloc2_some cell?_alloc3_some cell?_alloc4_some frozen?_alloc_some frozen?_alloc2_some frozen?_alloc3_some World.cell?_setCell_far new_ne0 new_ne1 new_ne2 new_ne3 lt2 lt3 lt4 lt5 lt6 lt7 lt8 lt9
attribute [local go_sem] Oper.semAt_some

theorem iWholePrimes (w : World) : Calls Try.prog 67 #[] w fun e w' => e = .returned (.func (.func 75) #[] #[]) ∧ Below w.heap.size w w' := by
  go_enter Try.func67, Try.ntmps67
  go_wp2_with fail
  go_returns
  exact ⟨rfl, by (repeat' (first | (with_reducible exact Below.refl _ _) | (with_reducible refine Below.alloc ?_ ?_ _) | (with_reducible refine Below.drew ?_) | (with_reducible refine Below.setCell ?_ ?_ _) | (with_reducible refine Below.trans ?_ (Below.mono (by assumption) ?_)) | go_size))⟩

/-- Between two rounds of wholePrimeOk: no prime so far divides n. -/
def Wi (n₀ : World) (xs : List (Array Value)) (n : Int) (i : Nat) (_ : Nat → Prop) (W : World) : Prop := ∃ (k : Nat) (p : Int) (r : Value), xs.drop i = prsFrom k p ∧ p + k = 1415 ∧ NoSmall n p ∧ W.cell? ⟨n₀.heap.size, 0, none⟩ = some (.int .i64 n) ∧ W.cell? ⟨n₀.heap.size + 1, 0, none⟩ = some r ∧ W.frozen? ⟨n₀.heap.size + 1, 0, none⟩ = false ∧ Below n₀.heap.size n₀ W
/-- How its loop stops: by a divisor, or by a prime that is great enough. -/
def Wx (n₀ : World) (n : Int) (c : Code) (_ : Nat → Prop) (W : World) : Prop := Below n₀.heap.size n₀ W ∧ match c with
  | .ret => wpB n = false ∧ W.cell? ⟨n₀.heap.size + 1, 0, none⟩ = some (.bool false)
  | .exit id => id = 0 ∧ wpB n = true ∧ ∃ r, W.cell? ⟨n₀.heap.size + 1, 0, none⟩ = some r ∧ W.frozen? ⟨n₀.heap.size + 1, 0, none⟩ = false
  | _ => False

set_option maxHeartbeats 4000000 in
theorem iWholePrimeOk (n : Int) (w : World) (hn : n ≤ 2000000) : Calls Try.prog 47 #[.int .i64 n] w fun e w' => e = .returned (.bool (wpB n)) ∧ Below w.heap.size w w' := by
  by_cases h2 : n < 2
  · have e : wpB n = false := by cases h : wpB n; rfl; have := (wpB_iff.1 h).1; omega
    rw [e]
    go_enter Try.func47, Try.ntmps47
    go_wp2_with fail
    refine bodyPost_ret (v := .bool false) (by simp [results, Try.results47, go_sem, *]) rfl ?_; exact ⟨rfl, by (repeat' (first | (with_reducible exact Below.refl _ _) | (with_reducible refine Below.alloc ?_ ?_ _) | (with_reducible refine Below.drew ?_) | (with_reducible refine Below.setCell ?_ ?_ _) | (with_reducible refine Below.trans ?_ (Below.mono (by assumption) ?_)) | go_size))⟩
  have h2' : 2 ≤ n := by omega
  obtain ⟨xs, hxs⟩ : ∃ xs, prsFrom 1413 2 = xs := ⟨_, rfl⟩
  refine (callsIn_wide (n := 9)).1 ?_
  refine callsIn_of_wp_marks Try.func47 rfl trivial ?_ rfl
  simp only [Try.ntmps47, List.size_toArray, List.length_cons, List.length_nil, Nat.reduceAdd, Nat.reduceSub, Array.replicate_succ, Array.replicate_zero, List.push_toArray, List.append_toArray, List.nil_append, List.cons_append]
  refine wpIn_wide.2 ?_
  go_wp2_with fail
  (refine (iWholePrimes _).mono ?_; rintro e w1 ⟨rfl, hb1⟩; have hz1 := hb1.size; (repeat (first | rw [World.size_alloc] at hz1 | rw [World.size_setCell] at hz1 | rw [World.size_drew] at hz1)); have kk1 := keep hb1 (a := ⟨w.heap.size, 0, none⟩) (v := _) (by (repeat (first | (with_reducible assumption) | (with_reducible apply sameS) | ((with_reducible apply born); (focus (simp; done)); (focus rfl)) | (with_reducible apply keepA) | (with_reducible apply keepD) | ((with_reducible apply keepS); focus ((repeat (first | rw [World.size_alloc] | rw [World.size_setCell] | rw [World.size_drew])); omega)) | ((with_reducible apply keep); (focus (with_reducible assumption)))))); have fkk1 := keepF hb1 (a := ⟨w.heap.size, 0, none⟩) (v := _) (by (repeat (first | (with_reducible assumption) | (with_reducible apply sameS) | ((with_reducible apply born); (focus (simp; done)); (focus rfl)) | (with_reducible apply keepA) | (with_reducible apply keepD) | ((with_reducible apply keepS); focus ((repeat (first | rw [World.size_alloc] | rw [World.size_setCell] | rw [World.size_drew])); omega)) | ((with_reducible apply keep); (focus (with_reducible assumption)))))) (by (repeat (first | (with_reducible assumption) | ((with_reducible apply bornF); (focus (simp; done))) | (with_reducible apply keepFS) | (with_reducible apply keepFD) | ((with_reducible apply keepFA); (focus (repeat (first | (with_reducible assumption) | (with_reducible apply sameS) | ((with_reducible apply born); (focus (simp; done)); (focus rfl)) | (with_reducible apply keepA) | (with_reducible apply keepD) | ((with_reducible apply keepS); focus ((repeat (first | rw [World.size_alloc] | rw [World.size_setCell] | rw [World.size_drew])); omega)) | ((with_reducible apply keep); (focus (with_reducible assumption)))))))))); have kk2 := keep hb1 (a := ⟨w.heap.size + 1, 0, none⟩) (v := _) (by (repeat (first | (with_reducible assumption) | (with_reducible apply sameS) | ((with_reducible apply born); (focus (simp; done)); (focus rfl)) | (with_reducible apply keepA) | (with_reducible apply keepD) | ((with_reducible apply keepS); focus ((repeat (first | rw [World.size_alloc] | rw [World.size_setCell] | rw [World.size_drew])); omega)) | ((with_reducible apply keep); (focus (with_reducible assumption)))))); have fkk2 := keepF hb1 (a := ⟨w.heap.size + 1, 0, none⟩) (v := _) (by (repeat (first | (with_reducible assumption) | (with_reducible apply sameS) | ((with_reducible apply born); (focus (simp; done)); (focus rfl)) | (with_reducible apply keepA) | (with_reducible apply keepD) | ((with_reducible apply keepS); focus ((repeat (first | rw [World.size_alloc] | rw [World.size_setCell] | rw [World.size_drew])); omega)) | ((with_reducible apply keep); (focus (with_reducible assumption)))))) (by (repeat (first | (with_reducible assumption) | ((with_reducible apply bornF); (focus (simp; done))) | (with_reducible apply keepFS) | (with_reducible apply keepFD) | ((with_reducible apply keepFA); (focus (repeat (first | (with_reducible assumption) | (with_reducible apply sameS) | ((with_reducible apply born); (focus (simp; done)); (focus rfl)) | (with_reducible apply keepA) | (with_reducible apply keepD) | ((with_reducible apply keepS); focus ((repeat (first | rw [World.size_alloc] | rw [World.size_setCell] | rw [World.size_drew])); omega)) | ((with_reducible apply keep); (focus (with_reducible assumption)))))))))))
  go_wp2_with fail
  refine (wpIn_wide (n := 9)).1 ?_
  have G := wholePrimes_gives w1
  have hps : ∀ x ∈ prsFrom 1413 2, x.size = 1 := prsFrom_one _ _
  rw [hxs] at G hps
  have HX := Lib.hid hxs
  clear hxs
  refine wp_rangeG (xs := xs) rfl (enters_of Try.func75 (by kernel_rfl) rfl) G (fun _ h => h.elim) (Keep.refl _ _) hps
    (Wi w xs n) (Wx w n) ?hI ?hIx ?h0 ?round ?done ?stop
  case hI =>
    rintro i S A B ⟨k, p, r, hd, hpk, hns, c0, c1, f1, hb⟩ hAB
    exact ⟨k, p, r, hd, hpk, hns, hAB.cell (.inl (by dsimp only; omega)) c0, hAB.cell (.inl (by dsimp only; omega)) c1, hAB.frozen (.inl (by dsimp only; omega)) c1 f1, hb.trans (hAB.below (fun b hb => .inl (by omega)) hb.size)⟩
  case hIx =>
    rintro c S A B ⟨hb, hc⟩ hAB
    refine ⟨hb.trans (hAB.below (fun b hb => .inl (by omega)) hb.size), ?_⟩
    cases c with
    | ret => exact ⟨hc.1, hAB.cell (.inl (by dsimp only; omega)) hc.2⟩
    | exit id =>
      obtain ⟨h0, h1, r, c1, f1⟩ := hc
      exact ⟨h0, h1, r, hAB.cell (.inl (by dsimp only; omega)) c1, hAB.frozen (.inl (by dsimp only; omega)) c1 f1⟩
    | _ => exact hc.elim
  case h0 => exact ⟨1413, 2, .bool false, by rw [List.drop_zero]; exact HX.out.symm, by omega, NoSmall.start n, by (repeat (first | (with_reducible assumption) | (with_reducible apply sameS) | ((with_reducible apply born); (focus (simp; done)); (focus rfl)) | (with_reducible apply keepA) | (with_reducible apply keepD) | ((with_reducible apply keepS); focus ((repeat (first | rw [World.size_alloc] | rw [World.size_setCell] | rw [World.size_drew])); omega)) | ((with_reducible apply keep); (focus (with_reducible assumption))))), by (repeat (first | (with_reducible assumption) | (with_reducible apply sameS) | ((with_reducible apply born); (focus (simp; done)); (focus rfl)) | (with_reducible apply keepA) | (with_reducible apply keepD) | ((with_reducible apply keepS); focus ((repeat (first | rw [World.size_alloc] | rw [World.size_setCell] | rw [World.size_drew])); omega)) | ((with_reducible apply keep); (focus (with_reducible assumption))))), by (repeat (first | (with_reducible assumption) | ((with_reducible apply bornF); (focus (simp; done))) | (with_reducible apply keepFS) | (with_reducible apply keepFD) | ((with_reducible apply keepFA); (focus (repeat (first | (with_reducible assumption) | (with_reducible apply sameS) | ((with_reducible apply born); (focus (simp; done)); (focus rfl)) | (with_reducible apply keepA) | (with_reducible apply keepD) | ((with_reducible apply keepS); focus ((repeat (first | rw [World.size_alloc] | rw [World.size_setCell] | rw [World.size_drew])); omega)) | ((with_reducible apply keep); (focus (with_reducible assumption))))))))), by (repeat' (first | (with_reducible exact Below.refl _ _) | (with_reducible refine Below.alloc ?_ ?_ _) | (with_reducible refine Below.drew ?_) | (with_reducible refine Below.setCell ?_ ?_ _) | (with_reducible refine Below.trans ?_ (Below.mono (by assumption) ?_)) | go_size))⟩
  case round =>
    rintro l i S row W hr ⟨k, p, r, hd, hpk, hns, c0, c1, f1, hb⟩ hs hS
    have hd' := cons_drop hr
    rw [hd] at hd'
    obtain ⟨q, j, rfl, hq, hpq, hqj, hno, ht⟩ := prs_head k p hd'
    gi_wp2
    refine ⟨Keep.refl _ _, ?_⟩
    intro W2 hs2 hk2
    have c0' := hk2.cell (p := ⟨w.heap.size, 0, none⟩) (.inl (by dsimp only; omega)) c0
    have c1' := hk2.cell (p := ⟨w.heap.size + 1, 0, none⟩) (.inl (by dsimp only; omega)) c1
    have f1' := hk2.frozen (p := ⟨w.heap.size + 1, 0, none⟩) (.inl (by dsimp only; omega)) c1 f1
    have hb' : Below w.heap.size w W2 := hb.trans (hk2.below (fun b hb => .inl (by omega)) hb.size)
    have hq2 := hq.1
    have hqq := Int.mul_le_mul (a := q) (b := q) (c := 1414) (d := 1414) (by omega) (by omega) (by omega) (by omega)
    have hqq0 := Int.mul_le_mul (a := 2) (b := 2) (c := q) (d := q) hq2 hq2 (by omega) (by omega)
    clear c0 c1 f1 hd hd' hr
    by_cases hgt : n < q * q
    · have hd1 : decide (n < q * q) = true := decide_eq_true hgt
      have hw := hns.wp h2' hno hgt (by omega)
      gi_wp2
      exact ⟨S, fun b hb => ⟨.inl hb, by have := (hS b hb).2; omega⟩, Keep.refl _ _, hb', rfl, hw, r, c1', f1'⟩
    · have hd1 : decide (n < q * q) = false := decide_eq_false hgt
      have hq0 : (q == 0) = false := by simp; omega
      have hte : n.tmod q = n % q := Int.tmod_eq_emod_of_nonneg (by omega)
      obtain ⟨x, hx⟩ : ∃ x, n.tmod q = x := ⟨_, rfl⟩
      have hxb : -2000000 ≤ x ∧ x ≤ 2000000 := by
        rw [← hx, hte]
        have := Int.emod_nonneg n (show q ≠ 0 by omega)
        have := Int.emod_lt_of_pos n (show 0 < q by omega)
        omega
      obtain ⟨hx1, hx2⟩ := hxb
      by_cases hm : n % q = 0
      · have hx0 : (x == 0) = true := by rw [beq_iff_eq]; omega
        have hw := not_wpB (n := n) hq2 (by omega) hm
        gi_wp2
        refine ⟨S, fun b hb => ⟨.inl hb, ?_⟩, Keep.setCell (Keep.refl _ _) ?_ _, hb'.setCell (by dsimp only; omega) _, hw, by (repeat (first | (with_reducible assumption) | (with_reducible apply sameS) | ((with_reducible apply born); (focus (simp; done)); (focus rfl)) | (with_reducible apply keepA) | (with_reducible apply keepD) | ((with_reducible apply keepS); focus ((repeat (first | rw [World.size_alloc] | rw [World.size_setCell] | rw [World.size_drew])); omega)) | ((with_reducible apply keep); (focus (with_reducible assumption)))))⟩
        · have := (hS b hb).2
          first | omega | (simp; omega)
        · rintro ⟨-, h, -⟩
          revert h
          simp
          omega
      · have hx0 : (x == 0) = false := by simp; omega
        have hns' := hns.next hno hm
        gi_wp2
        exact ⟨S, fun b hb => ⟨.inl hb, by have := (hS b hb).2; omega⟩, Keep.refl _ _, j, q + 1, r, ht, by omega, hns', c0', c1', f1', hb'⟩
  case done =>
    rintro D S W hD ⟨k, p, r, hd, hpk, hns, c0, c1, f1, hb⟩ hSD hK
    rw [List.drop_length] at hd
    have hno := prs_nil k p hd.symm
    have hw : wpB n = true := hns.wp (q := 1415) h2' (fun r hr hlt => hno r hr (by omega)) (by omega) (by omega)
    have HK := Lib.hid hK
    clear hK
    go_wp2_with fail
    refine mark_back (.bool true) ?_ ?_ ?_
    · exact heap_cells HK.out (by dsimp only; omega)
    · intro W' hW'
      have q0 : W'.cell? ⟨w.heap.size + 1, 0, none⟩ = some (.bool true) := (World.cell?_of_block (a := ⟨w.heap.size + 1, 0, none⟩) (hW' _ (by dsimp only; omega))).trans (by (repeat (first | (with_reducible assumption) | (with_reducible apply sameS) | ((with_reducible apply born); (focus (simp; done)); (focus rfl)) | (with_reducible apply keepA) | (with_reducible apply keepD) | ((with_reducible apply keepS); focus ((repeat (first | rw [World.size_alloc] | rw [World.size_setCell] | rw [World.size_drew])); omega)) | ((with_reducible apply keep); (focus (with_reducible assumption))))))
      simp [results, Try.results47, go_sem, q0]
    · intro W' _ hb'
      exact ⟨by rw [hw], Below.trans (by (repeat' (first | (with_reducible exact Below.refl _ _) | (with_reducible refine Below.alloc ?_ ?_ _) | (with_reducible refine Below.drew ?_) | (with_reducible refine Below.setCell ?_ ?_ _) | (with_reducible refine Below.trans ?_ (Below.mono (by assumption) ?_)) | go_size))) (hb'.mono (by omega))⟩
  case stop =>
    rintro D c S W hD ⟨hb, hc⟩ hSD hK
    have HK := Lib.hid hK
    clear hK
    cases c with
    | ret =>
      obtain ⟨hw, c1⟩ := hc
      gi_wp2
      refine mark_back (.bool false) ?_ ?_ ?_
      · exact HK.out
      · intro W' hW'
        have q0 : W'.cell? ⟨w.heap.size + 1, 0, none⟩ = some (.bool false) := (World.cell?_of_block (a := ⟨w.heap.size + 1, 0, none⟩) (hW' _ (by dsimp only; omega))).trans (by (repeat (first | (with_reducible assumption) | (with_reducible apply sameS) | ((with_reducible apply born); (focus (simp; done)); (focus rfl)) | (with_reducible apply keepA) | (with_reducible apply keepD) | ((with_reducible apply keepS); focus ((repeat (first | rw [World.size_alloc] | rw [World.size_setCell] | rw [World.size_drew])); omega)) | ((with_reducible apply keep); (focus (with_reducible assumption))))))
        simp [results, Try.results47, go_sem, q0]
      · intro W' _ hb'
        exact ⟨by rw [hw], Below.trans (by (repeat' (first | (with_reducible exact Below.refl _ _) | (with_reducible refine Below.alloc ?_ ?_ _) | (with_reducible refine Below.drew ?_) | (with_reducible refine Below.setCell ?_ ?_ _) | (with_reducible refine Below.trans ?_ (Below.mono (by assumption) ?_)) | go_size))) (hb'.mono (by omega))⟩
    | exit id =>
      obtain ⟨rfl, hw, r, c1, f1⟩ := hc
      gi_wp2
      go_wp2_with fail
      refine mark_back (.bool true) ?_ ?_ ?_
      · exact heap_cells HK.out (by dsimp only; omega)
      · intro W' hW'
        have q0 : W'.cell? ⟨w.heap.size + 1, 0, none⟩ = some (.bool true) := (World.cell?_of_block (a := ⟨w.heap.size + 1, 0, none⟩) (hW' _ (by dsimp only; omega))).trans (by (repeat (first | (with_reducible assumption) | (with_reducible apply sameS) | ((with_reducible apply born); (focus (simp; done)); (focus rfl)) | (with_reducible apply keepA) | (with_reducible apply keepD) | ((with_reducible apply keepS); focus ((repeat (first | rw [World.size_alloc] | rw [World.size_setCell] | rw [World.size_drew])); omega)) | ((with_reducible apply keep); (focus (with_reducible assumption))))))
        simp [results, Try.results47, go_sem, q0]
      · intro W' _ hb'
        exact ⟨by rw [hw], Below.trans (by (repeat' (first | (with_reducible exact Below.refl _ _) | (with_reducible refine Below.alloc ?_ ?_ _) | (with_reducible refine Below.drew ?_) | (with_reducible refine Below.setCell ?_ ?_ _) | (with_reducible refine Below.trans ?_ (Below.mono (by assumption) ?_)) | go_size))) (hb'.mono (by omega))⟩
    | _ => exact hc.elim
end Go.Proofs.Ytpjememmogaeiaa
