import Derived.Test.YtpjememmogaeiaaYe
import Derived.Test.YtpjememmogaeiaaYd
import Derived.Test.YtpjememmogaeiaaOd
namespace Go.Proofs.Ytpjememmogaeiaa
open Go Go.RowKit Go.Shelf
attribute [local go_sem] World.cell?_alloc_some cell?_alloc2_some cell?_alloc3_some cell?_alloc4_some frozen?_alloc_some frozen?_alloc2_some frozen?_alloc3_some World.cell?_setCell_far new_ne0 new_ne1 new_ne2 new_ne3 lt2 lt3 lt4 lt5 lt6 lt7 lt8 lt9
attribute [local go_sem] Oper.semAt_some

theorem iOnCircle (n : Int) (w : World) : Calls Try.prog 58 #[.int .i64 n] w fun e w' => ∃ Bn, e = .returned (.func (.func 70) #[] #[.pointer (some ⟨Bn, 0, none⟩)]) ∧ w'.cell? ⟨Bn, 0, none⟩ = some (.int .i64 n) ∧ w.heap.size ≤ Bn ∧ Below w.heap.size w w' := by
  go_enter Try.func58, Try.ntmps58
  go_wp2_with fail
  go_returns
  exact ⟨_, rfl, by (repeat (first | (with_reducible assumption) | (with_reducible apply sameS) | ((with_reducible apply born); (focus (simp; done)); (focus rfl)) | (with_reducible apply keepA) | (with_reducible apply keepD) | ((with_reducible apply keepS); focus ((repeat (first | rw [World.size_alloc] | rw [World.size_setCell] | rw [World.size_drew])); omega)) | ((with_reducible apply keep); (focus (with_reducible assumption))))), by omega, by (repeat' (first | (with_reducible exact Below.refl _ _) | (with_reducible refine Below.alloc ?_ ?_ _) | (with_reducible refine Below.drew ?_) | (with_reducible refine Below.setCell ?_ ?_ _) | (with_reducible refine Below.trans ?_ (Below.mono (by assumption) ?_)) | go_size))⟩

def sqOk (q : Int × Int) : Bool := decide (q.2 ≤ q.1)
/-- The prime whose norm is a prime, in the first quarter, with a first part that is not less. -/
def spF (p : Int) : Option (Int × Int) := if knO p = -1 then none else (circ p).find? sqOk
def spO (p : Int) : Bool := (spF p).isSome
def spA (p : Int) : Int := ((spF p).getD (0, 0)).1
def spB (p : Int) : Int := ((spF p).getD (0, 0)).2
theorem kn_wp {p : Int} (h : knO p ≠ -1) : 2 ≤ p ∧ p ≤ 1000 ∧ wp p := by
  by_cases h1 : 2 ≤ p ∧ p ≤ 1000
  · cases hw : wpB p
    · exact absurd (knO_no (.inr hw)) h
    · exact ⟨h1.1, h1.2, wpB_iff.1 hw⟩
  · exact absurd (knO_no (.inl h1)) h
theorem wp_kn {p : Int} (h1 : p ≤ 1000) (h : wp p) : knO p ≠ -1 := by
  rw [knO_yes h1 (wpB_iff.2 h)]; split
  · omega
  · split <;> omega
theorem sp_is (p : Int) : SplitIs p (spO p) (spA p) (spB p) := by
  unfold spO spA spB
  cases h : spF p with
  | some q =>
    refine ⟨fun h => by simp at h, fun _ => ?_⟩
    rw [spF] at h
    by_cases hk : knO p = -1
    · rw [if_pos hk] at h; cases h
    rw [if_neg hk] at h
    obtain ⟨h1, h2, h3⟩ := kn_wp hk
    have hq := List.find?_some h
    obtain ⟨a, b⟩ := q
    obtain ⟨⟨ha, hb⟩, e⟩ := (mem_circ (by omega) a b).1 (List.mem_of_find?_eq_some h)
    have hba : b ≤ a := by simpa [sqOk] using hq
    refine ⟨h1, h2, h3, fun h4 => no_sq h4 e, ha, hb, hba, ?_, e⟩
    show a ≤ 31
    rcases Int.lt_or_le 31 a with h' | h'
    · have := Int.mul_le_mul (a := 32) (b := 32) (c := a) (d := a) h' h' (by omega) (by omega)
      have := sq_nn b
      omega
    · exact h'
  | none =>
    refine ⟨fun _ => ⟨rfl, rfl, ?_⟩, fun h => by simp at h⟩
    rintro ⟨h1, h2, h3, h4⟩
    rw [spF, if_neg (wp_kn h2 h3)] at h
    obtain ⟨a, b, hb, hba, -, e, -⟩ := two_sq h3 h2 h4
    have ha : 0 < a := by
      rcases Int.lt_or_le 0 a with h' | h'
      · exact h'
      · obtain rfl : a = 0 := by omega
        obtain rfl : b = 0 := by omega
        omega
    have := List.find?_eq_none.1 h (a, b) ((mem_circ (by omega) a b).2 ⟨⟨ha, hb⟩, e⟩)
    exact this (by simp [sqOk, hba])
theorem map_at {L : List (Int × Int)} {k : Nat} {row : Array Value} (h : (L.map gRow)[k]? = some row) : ∃ a b, row = gRow (a, b) ∧ L[k]? = some (a, b) ∧ L.take (k + 1) = L.take k ++ [(a, b)] := by
  rw [List.getElem?_map, Option.map_eq_some_iff] at h
  obtain ⟨⟨a, b⟩, h1, rfl⟩ := h
  refine ⟨a, b, rfl, h1, ?_⟩
  rw [List.take_add_one, h1]; rfl
theorem find_hit {L : List (Int × Int)} {k : Nat} {q : Int × Int} (h : (L.take k).find? sqOk = none) (hq : L[k]? = some q) (ho : sqOk q = true) : L.find? sqOk = some q := by
  obtain ⟨hl, he⟩ := List.getElem?_eq_some_iff.1 hq
  have e : L = L.take k ++ (q :: L.drop (k + 1)) := by
    rw [← he, ← List.drop_eq_getElem_cons hl]; exact (List.take_append_drop k L).symm
  rw [e, List.find?_append, h]
  simp [ho]
/-- Between two rounds of SplitOf's loop: none so far. -/
def Zi (n₀ : World) (L : List (Int × Int)) (i : Nat) (_ : Nat → Prop) (W : World) : Prop := (L.take i).find? sqOk = none ∧ Two W n₀.heap.size 0 0 ∧ W.cell? ⟨n₀.heap.size + 1, 0, none⟩ = some (.bool false) ∧ W.frozen? ⟨n₀.heap.size + 1, 0, none⟩ = false ∧ Below n₀.heap.size n₀ W
def Zx (n₀ : World) (L : List (Int × Int)) (c : Code) (_ : Nat → Prop) (W : World) : Prop := c = .ret ∧ ∃ a b, L.find? sqOk = some (a, b) ∧ Two W n₀.heap.size a b ∧ W.cell? ⟨n₀.heap.size + 1, 0, none⟩ = some (.bool true) ∧ Below n₀.heap.size n₀ W
theorem Keep.two {K : Nat → Prop} {V W : World} (h : Keep K V W) {b : Nat} {x y : Int} (hb : K b) (t : Two V b x y) : Two W b x y := ⟨h.cell hb t.c0, h.cell hb t.c1, h.frozen hb t.c0 t.f0, h.frozen hb t.c1 t.f1⟩

set_option maxHeartbeats 4000000 in
theorem iSplitOf (p : Int) (w : World) : Calls Try.prog 27 #[.int .i64 p] w fun e w' => e = .returned (.tuple #[.agg #[.int .i64 (spA p), .int .i64 (spB p)], .bool (spO p)]) ∧ Below w.heap.size w w' := by
  by_cases hk : knO p = -1
  · have hs : spF p = none := by rw [spF, if_pos hk]
    rw [spA, spB, spO, hs]
    go_enter Try.func27, Try.ntmps27
    go_wp2_with fail
    (refine (iKindOf p _).mono ?_; rintro e w1 ⟨rfl, hb1⟩; have hz1 := hb1.size; (repeat (first | rw [World.size_alloc] at hz1 | rw [World.size_setCell] at hz1 | rw [World.size_drew] at hz1)); have pp := T2.K hb1 (b := w.heap.size) (x := _) (y := _) (by (repeat (first | ((with_reducible apply T2.mk) <;> (with_reducible assumption)) | (with_reducible apply T2.Z) | (with_reducible apply T2.O) | ((with_reducible apply T2.B); (focus (simp; done))) | (with_reducible apply T2.A) | (with_reducible apply T2.D) | ((with_reducible apply T2.S); focus ((repeat (first | rw [World.size_alloc] | rw [World.size_setCell] | rw [World.size_drew])); omega)) | ((with_reducible apply T2.K); (focus (with_reducible assumption)))))); obtain ⟨kk1, kk2, fkk1, fkk2⟩ := pp; have kk3 := keep hb1 (a := ⟨w.heap.size + 1, 0, none⟩) (v := _) (by (repeat (first | (with_reducible assumption) | (with_reducible apply sameS) | ((with_reducible apply born); (focus (simp; done)); (focus rfl)) | (with_reducible apply keepA) | (with_reducible apply keepD) | ((with_reducible apply keepS); focus ((repeat (first | rw [World.size_alloc] | rw [World.size_setCell] | rw [World.size_drew])); omega)) | ((with_reducible apply keep); (focus (with_reducible assumption)))))); have fkk3 := keepF hb1 (a := ⟨w.heap.size + 1, 0, none⟩) (v := _) (by (repeat (first | (with_reducible assumption) | (with_reducible apply sameS) | ((with_reducible apply born); (focus (simp; done)); (focus rfl)) | (with_reducible apply keepA) | (with_reducible apply keepD) | ((with_reducible apply keepS); focus ((repeat (first | rw [World.size_alloc] | rw [World.size_setCell] | rw [World.size_drew])); omega)) | ((with_reducible apply keep); (focus (with_reducible assumption)))))) (by (repeat (first | (with_reducible assumption) | ((with_reducible apply bornF); (focus (simp; done))) | (with_reducible apply keepFS) | (with_reducible apply keepFD) | ((with_reducible apply keepFA); (focus (repeat (first | (with_reducible assumption) | (with_reducible apply sameS) | ((with_reducible apply born); (focus (simp; done)); (focus rfl)) | (with_reducible apply keepA) | (with_reducible apply keepD) | ((with_reducible apply keepS); focus ((repeat (first | rw [World.size_alloc] | rw [World.size_setCell] | rw [World.size_drew])); omega)) | ((with_reducible apply keep); (focus (with_reducible assumption)))))))))))
    rw [hk]
    go_wp2_with fail
    refine bodyPost_ret (v := .tuple #[.agg #[.int .i64 0, .int .i64 0], .bool false]) (by simp [results, Try.results27, go_sem, *]) rfl ?_; exact ⟨rfl, by (repeat' (first | (with_reducible exact Below.refl _ _) | (with_reducible refine Below.alloc ?_ ?_ _) | (with_reducible refine Below.drew ?_) | (with_reducible refine Below.setCell ?_ ?_ _) | (with_reducible refine Below.trans ?_ (Below.mono (by assumption) ?_)) | go_size))⟩
  obtain ⟨h2, h1000, hwp⟩ := kn_wp hk
  have hs : spF p = (circ p).find? sqOk := by rw [spF, if_neg hk]
  rw [spA, spB, spO, hs]
  have hk' : (knO p == -1) = false := by simpa using hk
  obtain ⟨L, hL⟩ : ∃ L, circ p = L := ⟨_, rfl⟩
  rw [hL]
  refine (callsIn_wide (n := 9)).1 ?_
  refine callsIn_of_wp_marks Try.func27 rfl trivial ?_ rfl
  simp only [Try.ntmps27, List.size_toArray, List.length_cons, List.length_nil, Nat.reduceAdd, Nat.reduceSub, Array.replicate_succ, Array.replicate_zero, List.push_toArray, List.append_toArray, List.nil_append, List.cons_append]
  refine wpIn_wide.2 ?_
  go_wp2_with fail
  (refine (iKindOf p _).mono ?_; rintro e w1 ⟨rfl, hb1⟩; have hz1 := hb1.size; (repeat (first | rw [World.size_alloc] at hz1 | rw [World.size_setCell] at hz1 | rw [World.size_drew] at hz1)); have pp := T2.K hb1 (b := w.heap.size) (x := _) (y := _) (by (repeat (first | ((with_reducible apply T2.mk) <;> (with_reducible assumption)) | (with_reducible apply T2.Z) | (with_reducible apply T2.O) | ((with_reducible apply T2.B); (focus (simp; done))) | (with_reducible apply T2.A) | (with_reducible apply T2.D) | ((with_reducible apply T2.S); focus ((repeat (first | rw [World.size_alloc] | rw [World.size_setCell] | rw [World.size_drew])); omega)) | ((with_reducible apply T2.K); (focus (with_reducible assumption)))))); obtain ⟨kk4, kk5, fkk4, fkk5⟩ := pp; have kk6 := keep hb1 (a := ⟨w.heap.size + 1, 0, none⟩) (v := _) (by (repeat (first | (with_reducible assumption) | (with_reducible apply sameS) | ((with_reducible apply born); (focus (simp; done)); (focus rfl)) | (with_reducible apply keepA) | (with_reducible apply keepD) | ((with_reducible apply keepS); focus ((repeat (first | rw [World.size_alloc] | rw [World.size_setCell] | rw [World.size_drew])); omega)) | ((with_reducible apply keep); (focus (with_reducible assumption)))))); have fkk6 := keepF hb1 (a := ⟨w.heap.size + 1, 0, none⟩) (v := _) (by (repeat (first | (with_reducible assumption) | (with_reducible apply sameS) | ((with_reducible apply born); (focus (simp; done)); (focus rfl)) | (with_reducible apply keepA) | (with_reducible apply keepD) | ((with_reducible apply keepS); focus ((repeat (first | rw [World.size_alloc] | rw [World.size_setCell] | rw [World.size_drew])); omega)) | ((with_reducible apply keep); (focus (with_reducible assumption)))))) (by (repeat (first | (with_reducible assumption) | ((with_reducible apply bornF); (focus (simp; done))) | (with_reducible apply keepFS) | (with_reducible apply keepFD) | ((with_reducible apply keepFA); (focus (repeat (first | (with_reducible assumption) | (with_reducible apply sameS) | ((with_reducible apply born); (focus (simp; done)); (focus rfl)) | (with_reducible apply keepA) | (with_reducible apply keepD) | ((with_reducible apply keepS); focus ((repeat (first | rw [World.size_alloc] | rw [World.size_setCell] | rw [World.size_drew])); omega)) | ((with_reducible apply keep); (focus (with_reducible assumption)))))))))); (try clear kk1 kk2 fkk1 fkk2 kk3 fkk3))
  go_wp2_with fail
  (refine (iOnCircle p _).mono ?_; rintro e w2 ⟨Bn, rfl, cB, hB, hb2⟩; have hz2 := hb2.size; (repeat (first | rw [World.size_alloc] at hz2 | rw [World.size_setCell] at hz2 | rw [World.size_drew] at hz2)); have pp := T2.K hb2 (b := w.heap.size) (x := _) (y := _) (by (repeat (first | ((with_reducible apply T2.mk) <;> (with_reducible assumption)) | (with_reducible apply T2.Z) | (with_reducible apply T2.O) | ((with_reducible apply T2.B); (focus (simp; done))) | (with_reducible apply T2.A) | (with_reducible apply T2.D) | ((with_reducible apply T2.S); focus ((repeat (first | rw [World.size_alloc] | rw [World.size_setCell] | rw [World.size_drew])); omega)) | ((with_reducible apply T2.K); (focus (with_reducible assumption)))))); obtain ⟨kk7, kk8, fkk7, fkk8⟩ := pp; have kk9 := keep hb2 (a := ⟨w.heap.size + 1, 0, none⟩) (v := _) (by (repeat (first | (with_reducible assumption) | (with_reducible apply sameS) | ((with_reducible apply born); (focus (simp; done)); (focus rfl)) | (with_reducible apply keepA) | (with_reducible apply keepD) | ((with_reducible apply keepS); focus ((repeat (first | rw [World.size_alloc] | rw [World.size_setCell] | rw [World.size_drew])); omega)) | ((with_reducible apply keep); (focus (with_reducible assumption)))))); have fkk9 := keepF hb2 (a := ⟨w.heap.size + 1, 0, none⟩) (v := _) (by (repeat (first | (with_reducible assumption) | (with_reducible apply sameS) | ((with_reducible apply born); (focus (simp; done)); (focus rfl)) | (with_reducible apply keepA) | (with_reducible apply keepD) | ((with_reducible apply keepS); focus ((repeat (first | rw [World.size_alloc] | rw [World.size_setCell] | rw [World.size_drew])); omega)) | ((with_reducible apply keep); (focus (with_reducible assumption)))))) (by (repeat (first | (with_reducible assumption) | ((with_reducible apply bornF); (focus (simp; done))) | (with_reducible apply keepFS) | (with_reducible apply keepFD) | ((with_reducible apply keepFA); (focus (repeat (first | (with_reducible assumption) | (with_reducible apply sameS) | ((with_reducible apply born); (focus (simp; done)); (focus rfl)) | (with_reducible apply keepA) | (with_reducible apply keepD) | ((with_reducible apply keepS); focus ((repeat (first | rw [World.size_alloc] | rw [World.size_setCell] | rw [World.size_drew])); omega)) | ((with_reducible apply keep); (focus (with_reducible assumption)))))))))); (try clear kk4 kk5 fkk4 fkk5 kk6 fkk6))
  go_wp2_with fail
  refine (wpIn_wide (n := 9)).1 ?_
  have G := onCircle_gives p Bn w2 (by omega) cB
  have hBn : Bn < w2.heap.size := World.block_lt_of_cell? _ _ cB
  rw [hL] at G
  refine wp_rangeG (xs := L.map gRow) rfl (enters_of Try.func70 (by kernel_rfl) rfl) G (fun b h => h ▸ hBn) (Keep.refl _ _) (fun x hx => by obtain ⟨q, -, rfl⟩ := List.mem_map.1 hx; rfl)
    (Zi w L) (Zx w L) ?hI ?hIx ?h0 ?round ?done ?stop
  case hI =>
    rintro i S A B ⟨h1, t, c1, f1, hb⟩ hAB
    exact ⟨h1, hAB.two (.inl (by omega)) t, hAB.cell (.inl (by dsimp only; omega)) c1, hAB.frozen (.inl (by dsimp only; omega)) c1 f1, hb.trans (hAB.below (fun b hb => .inl (by omega)) hb.size)⟩
  case hIx =>
    rintro c S A B ⟨rfl, a, b, h1, t, c1, hb⟩ hAB
    exact ⟨rfl, a, b, h1, hAB.two (.inl (by omega)) t, hAB.cell (.inl (by dsimp only; omega)) c1, hb.trans (hAB.below (fun b hb => .inl (by omega)) hb.size)⟩
  case h0 => exact ⟨rfl, (Two.of (by (repeat (first | ((with_reducible apply T2.mk) <;> (with_reducible assumption)) | (with_reducible apply T2.Z) | (with_reducible apply T2.O) | ((with_reducible apply T2.B); (focus (simp; done))) | (with_reducible apply T2.A) | (with_reducible apply T2.D) | ((with_reducible apply T2.S); focus ((repeat (first | rw [World.size_alloc] | rw [World.size_setCell] | rw [World.size_drew])); omega)) | ((with_reducible apply T2.K); (focus (with_reducible assumption))))))), by (repeat (first | (with_reducible assumption) | (with_reducible apply sameS) | ((with_reducible apply born); (focus (simp; done)); (focus rfl)) | (with_reducible apply keepA) | (with_reducible apply keepD) | ((with_reducible apply keepS); focus ((repeat (first | rw [World.size_alloc] | rw [World.size_setCell] | rw [World.size_drew])); omega)) | ((with_reducible apply keep); (focus (with_reducible assumption))))), by (repeat (first | (with_reducible assumption) | ((with_reducible apply bornF); (focus (simp; done))) | (with_reducible apply keepFS) | (with_reducible apply keepFD) | ((with_reducible apply keepFA); (focus (repeat (first | (with_reducible assumption) | (with_reducible apply sameS) | ((with_reducible apply born); (focus (simp; done)); (focus rfl)) | (with_reducible apply keepA) | (with_reducible apply keepD) | ((with_reducible apply keepS); focus ((repeat (first | rw [World.size_alloc] | rw [World.size_setCell] | rw [World.size_drew])); omega)) | ((with_reducible apply keep); (focus (with_reducible assumption))))))))), by (repeat' (first | (with_reducible exact Below.refl _ _) | (with_reducible refine Below.alloc ?_ ?_ _) | (with_reducible refine Below.drew ?_) | (with_reducible refine Below.setCell ?_ ?_ _) | (with_reducible refine Below.trans ?_ (Below.mono (by assumption) ?_)) | go_size))⟩
  case round =>
    rintro l i S row W hr ⟨hn, ⟨x0, x1, x2, x3⟩, c1, f1, hb⟩ hs hS
    obtain ⟨a, b, rfl, hat, htk⟩ := map_at hr
    rw [gRow]
    gi_wp2
    refine ⟨(Keep.refl _ _).alloc _, ?_⟩
    intro W2 hs2 hk2
    have tX := hk2.two (b := w.heap.size) (x := 0) (y := 0) (.inl (by omega)) (Two.of (by (repeat (first | ((with_reducible apply T2.mk) <;> (with_reducible assumption)) | (with_reducible apply T2.Z) | (with_reducible apply T2.O) | ((with_reducible apply T2.B); (focus (simp; done))) | (with_reducible apply T2.A) | (with_reducible apply T2.D) | ((with_reducible apply T2.S); focus ((repeat (first | rw [World.size_alloc] | rw [World.size_setCell] | rw [World.size_drew])); omega)) | ((with_reducible apply T2.K); (focus (with_reducible assumption)))))))
    have tV := hk2.two (b := W.heap.size) (x := a) (y := b) (.inr (by omega)) (Two.of (by (repeat (first | ((with_reducible apply T2.mk) <;> (with_reducible assumption)) | (with_reducible apply T2.Z) | (with_reducible apply T2.O) | ((with_reducible apply T2.B); (focus (simp; done))) | (with_reducible apply T2.A) | (with_reducible apply T2.D) | ((with_reducible apply T2.S); focus ((repeat (first | rw [World.size_alloc] | rw [World.size_setCell] | rw [World.size_drew])); omega)) | ((with_reducible apply T2.K); (focus (with_reducible assumption)))))))
    have c1' := hk2.cell (p := ⟨w.heap.size + 1, 0, none⟩) (v := .bool false) (.inl (by dsimp only; omega)) (by (repeat (first | (with_reducible assumption) | (with_reducible apply sameS) | ((with_reducible apply born); (focus (simp; done)); (focus rfl)) | (with_reducible apply keepA) | (with_reducible apply keepD) | ((with_reducible apply keepS); focus ((repeat (first | rw [World.size_alloc] | rw [World.size_setCell] | rw [World.size_drew])); omega)) | ((with_reducible apply keep); (focus (with_reducible assumption))))))
    have f1' := hk2.frozen (p := ⟨w.heap.size + 1, 0, none⟩) (v := .bool false) (.inl (by dsimp only; omega)) (by (repeat (first | (with_reducible assumption) | (with_reducible apply sameS) | ((with_reducible apply born); (focus (simp; done)); (focus rfl)) | (with_reducible apply keepA) | (with_reducible apply keepD) | ((with_reducible apply keepS); focus ((repeat (first | rw [World.size_alloc] | rw [World.size_setCell] | rw [World.size_drew])); omega)) | ((with_reducible apply keep); (focus (with_reducible assumption)))))) (by (repeat (first | (with_reducible assumption) | ((with_reducible apply bornF); (focus (simp; done))) | (with_reducible apply keepFS) | (with_reducible apply keepFD) | ((with_reducible apply keepFA); (focus (repeat (first | (with_reducible assumption) | (with_reducible apply sameS) | ((with_reducible apply born); (focus (simp; done)); (focus rfl)) | (with_reducible apply keepA) | (with_reducible apply keepD) | ((with_reducible apply keepS); focus ((repeat (first | rw [World.size_alloc] | rw [World.size_setCell] | rw [World.size_drew])); omega)) | ((with_reducible apply keep); (focus (with_reducible assumption))))))))))
    have hb' : Below w.heap.size w W2 := (hb.alloc (by omega) _).trans (hk2.below (fun b hb => .inl (by omega)) (by simp; omega))
    rw [World.size_alloc] at hs2
    have hS2 : ∀ b, S b → b < W2.heap.size := fun b hb => by have := (hS b hb).2; omega
    clear x0 x1 x2 x3 c1 f1
    obtain ⟨x0, x1, x2, x3⟩ := tX
    obtain ⟨v0, v1, -, -⟩ := tV
    by_cases hba : b ≤ a
    · have hd : decide (b ≤ a) = true := decide_eq_true hba
      have hf := find_hit hn hat (by simp [sqOk, hba])
      gi_wp2
      refine ⟨S, fun b hb => ⟨.inl hb, ?_⟩, (((Keep.refl _ _).setCell ?_ _).setCell ?_ _).setCell ?_ _, rfl, a, b, hf, (Two.of (by (repeat (first | ((with_reducible apply T2.mk) <;> (with_reducible assumption)) | (with_reducible apply T2.Z) | (with_reducible apply T2.O) | ((with_reducible apply T2.B); (focus (simp; done))) | (with_reducible apply T2.A) | (with_reducible apply T2.D) | ((with_reducible apply T2.S); focus ((repeat (first | rw [World.size_alloc] | rw [World.size_setCell] | rw [World.size_drew])); omega)) | ((with_reducible apply T2.K); (focus (with_reducible assumption))))))), by (repeat (first | (with_reducible assumption) | (with_reducible apply sameS) | ((with_reducible apply born); (focus (simp; done)); (focus rfl)) | (with_reducible apply keepA) | (with_reducible apply keepD) | ((with_reducible apply keepS); focus ((repeat (first | rw [World.size_alloc] | rw [World.size_setCell] | rw [World.size_drew])); omega)) | ((with_reducible apply keep); (focus (with_reducible assumption))))), by (repeat' (first | (with_reducible exact Below.refl _ _) | (with_reducible refine Below.alloc ?_ ?_ _) | (with_reducible refine Below.drew ?_) | (with_reducible refine Below.setCell ?_ ?_ _) | (with_reducible refine Below.trans ?_ (Below.mono (by assumption) ?_)) | go_size))⟩
      · have := hS2 b hb
        first | omega | (simp; omega)
      all_goals
        rintro ⟨-, h, -⟩
        rcases h with h | h
        · dsimp only at h; omega
        · dsimp only at h; omega
    · have hd : decide (b ≤ a) = false := decide_eq_false hba
      gi_wp2
      refine ⟨S, fun b hb => ⟨.inl hb, by have := hS2 b hb; omega⟩, Keep.refl _ _, ?_, (Two.of (by (repeat (first | ((with_reducible apply T2.mk) <;> (with_reducible assumption)) | (with_reducible apply T2.Z) | (with_reducible apply T2.O) | ((with_reducible apply T2.B); (focus (simp; done))) | (with_reducible apply T2.A) | (with_reducible apply T2.D) | ((with_reducible apply T2.S); focus ((repeat (first | rw [World.size_alloc] | rw [World.size_setCell] | rw [World.size_drew])); omega)) | ((with_reducible apply T2.K); (focus (with_reducible assumption))))))), c1', f1', hb'⟩
      rw [htk, List.find?_append, hn]
      simp [sqOk]; omega
  case done =>
    rintro D S W hD ⟨hn, ⟨x0, x1, x2, x3⟩, c1, f1, hb⟩ hSD hK
    rw [List.length_map, List.take_length] at hn
    have hw : L.find? sqOk = none := hn
    have HK := Lib.hid hK
    clear hK hn
    go_wp2_with fail
    refine mark_back (.tuple #[.agg #[.int .i64 (0), .int .i64 (0)], .bool false]) ?_ ?_ ?_
    · exact heap_cells (heap_cells (heap_cells HK.out (by dsimp only; omega)) (by dsimp only; omega)) (by dsimp only; omega)
    · intro W' hW'
      have q0 : W'.cell? ⟨w.heap.size, 0, none⟩ = some (.int .i64 (0)) := (World.cell?_of_block (a := ⟨w.heap.size, 0, none⟩) (hW' _ (by dsimp only; omega))).trans (by (repeat (first | (with_reducible assumption) | (with_reducible apply sameS) | ((with_reducible apply born); (focus (simp; done)); (focus rfl)) | (with_reducible apply keepA) | (with_reducible apply keepD) | ((with_reducible apply keepS); focus ((repeat (first | rw [World.size_alloc] | rw [World.size_setCell] | rw [World.size_drew])); omega)) | ((with_reducible apply keep); (focus (with_reducible assumption))))))
      have q1 : W'.cell? ⟨w.heap.size, 1, none⟩ = some (.int .i64 (0)) := (World.cell?_of_block (a := ⟨w.heap.size, 1, none⟩) (hW' _ (by dsimp only; omega))).trans (by (repeat (first | (with_reducible assumption) | (with_reducible apply sameS) | ((with_reducible apply born); (focus (simp; done)); (focus rfl)) | (with_reducible apply keepA) | (with_reducible apply keepD) | ((with_reducible apply keepS); focus ((repeat (first | rw [World.size_alloc] | rw [World.size_setCell] | rw [World.size_drew])); omega)) | ((with_reducible apply keep); (focus (with_reducible assumption))))))
      have q2 : W'.cell? ⟨w.heap.size + 1, 0, none⟩ = some (.bool false) := (World.cell?_of_block (a := ⟨w.heap.size + 1, 0, none⟩) (hW' _ (by dsimp only; omega))).trans (by (repeat (first | (with_reducible assumption) | (with_reducible apply sameS) | ((with_reducible apply born); (focus (simp; done)); (focus rfl)) | (with_reducible apply keepA) | (with_reducible apply keepD) | ((with_reducible apply keepS); focus ((repeat (first | rw [World.size_alloc] | rw [World.size_setCell] | rw [World.size_drew])); omega)) | ((with_reducible apply keep); (focus (with_reducible assumption))))))
      simp [results, Try.results27, go_sem, q0, q1, q2]
    · intro W' _ hb'
      exact ⟨by rw [hw]; rfl, Below.trans (by (repeat' (first | (with_reducible exact Below.refl _ _) | (with_reducible refine Below.alloc ?_ ?_ _) | (with_reducible refine Below.drew ?_) | (with_reducible refine Below.setCell ?_ ?_ _) | (with_reducible refine Below.trans ?_ (Below.mono (by assumption) ?_)) | go_size))) (hb'.mono (by omega))⟩
  case stop =>
    rintro D c S W hD ⟨rfl, a, b, hw, ⟨x0, x1, x2, x3⟩, c1, hb⟩ hSD hK
    have HK := Lib.hid hK
    clear hK
    gi_wp2
    refine mark_back (.tuple #[.agg #[.int .i64 (a), .int .i64 (b)], .bool true]) ?_ ?_ ?_
    · exact HK.out
    · intro W' hW'
      have q0 : W'.cell? ⟨w.heap.size, 0, none⟩ = some (.int .i64 (a)) := (World.cell?_of_block (a := ⟨w.heap.size, 0, none⟩) (hW' _ (by dsimp only; omega))).trans (by (repeat (first | (with_reducible assumption) | (with_reducible apply sameS) | ((with_reducible apply born); (focus (simp; done)); (focus rfl)) | (with_reducible apply keepA) | (with_reducible apply keepD) | ((with_reducible apply keepS); focus ((repeat (first | rw [World.size_alloc] | rw [World.size_setCell] | rw [World.size_drew])); omega)) | ((with_reducible apply keep); (focus (with_reducible assumption))))))
      have q1 : W'.cell? ⟨w.heap.size, 1, none⟩ = some (.int .i64 (b)) := (World.cell?_of_block (a := ⟨w.heap.size, 1, none⟩) (hW' _ (by dsimp only; omega))).trans (by (repeat (first | (with_reducible assumption) | (with_reducible apply sameS) | ((with_reducible apply born); (focus (simp; done)); (focus rfl)) | (with_reducible apply keepA) | (with_reducible apply keepD) | ((with_reducible apply keepS); focus ((repeat (first | rw [World.size_alloc] | rw [World.size_setCell] | rw [World.size_drew])); omega)) | ((with_reducible apply keep); (focus (with_reducible assumption))))))
      have q2 : W'.cell? ⟨w.heap.size + 1, 0, none⟩ = some (.bool true) := (World.cell?_of_block (a := ⟨w.heap.size + 1, 0, none⟩) (hW' _ (by dsimp only; omega))).trans (by (repeat (first | (with_reducible assumption) | (with_reducible apply sameS) | ((with_reducible apply born); (focus (simp; done)); (focus rfl)) | (with_reducible apply keepA) | (with_reducible apply keepD) | ((with_reducible apply keepS); focus ((repeat (first | rw [World.size_alloc] | rw [World.size_setCell] | rw [World.size_drew])); omega)) | ((with_reducible apply keep); (focus (with_reducible assumption))))))
      simp [results, Try.results27, go_sem, q0, q1, q2]
    · intro W' _ hb'
      exact ⟨by rw [hw]; rfl, Below.trans (by (repeat' (first | (with_reducible exact Below.refl _ _) | (with_reducible refine Below.alloc ?_ ?_ _) | (with_reducible refine Below.drew ?_) | (with_reducible refine Below.setCell ?_ ?_ _) | (with_reducible refine Below.trans ?_ (Below.mono (by assumption) ?_)) | go_size))) (hb'.mono (by omega))⟩

set_option maxHeartbeats 4000000 in
theorem sSplitOf (p : Int) (w : World) : Calls Try.prog 28 #[.int .i64 p] w fun e w' => e = .returned (.tuple #[.agg #[.int .i64 (spA p), .int .i64 (spB p)], .bool (spO p)]) ∧ Below w.heap.size w w' := by
  have hone : ∀ o a b, SplitIs p o a b → a = spA p ∧ b = spB p ∧ o = spO p := fun o a b h => by
    obtain ⟨e1, e2, e3⟩ := h.one (sp_is p); exact ⟨e2, e3, e1⟩
  have fin : ∀ (o : Bool) (a b : Int) (W : World), SplitIs p o a b → Below w.heap.size w W → Ending.returned (.tuple #[.agg #[.int .i64 a, .int .i64 b], .bool o]) = Ending.returned (.tuple #[.agg #[.int .i64 (spA p), .int .i64 (spB p)], .bool (spO p)]) ∧ Below w.heap.size w W := fun o a b W h hb => by
    obtain ⟨e1, e2, e3⟩ := hone o a b h; rw [e1, e2, e3]; exact ⟨rfl, hb⟩
  by_cases h1 : 2 ≤ p ∧ p ≤ 1000
  case neg =>
    have hd : decide (2 ≤ p ∧ p ≤ 1000) = false := decide_eq_false h1
    have hno : SplitIs p false 0 0 := ⟨fun _ => ⟨rfl, rfl, fun h => h1 ⟨h.1, h.2.1⟩⟩, fun h => by cases h⟩
    go_enter Try.func28, Try.ntmps28
    go_wp2_with fail
    (refine (l1In_kind p _).mono ?_; rintro e w2 ⟨rfl, hb2⟩; have hz2 := hb2.size; (repeat (first | rw [World.size_alloc] at hz2 | rw [World.size_setCell] at hz2 | rw [World.size_drew] at hz2)); have pp := T2.K hb2 (b := w.heap.size) (x := _) (y := _) (by (repeat (first | ((with_reducible apply T2.mk) <;> (with_reducible assumption)) | (with_reducible apply T2.Z) | (with_reducible apply T2.O) | ((with_reducible apply T2.B); (focus (simp; done))) | (with_reducible apply T2.A) | (with_reducible apply T2.D) | ((with_reducible apply T2.S); focus ((repeat (first | rw [World.size_alloc] | rw [World.size_setCell] | rw [World.size_drew])); omega)) | ((with_reducible apply T2.K); (focus (with_reducible assumption)))))); obtain ⟨kk1, kk2, fkk1, fkk2⟩ := pp)
    rw [hd]
    go_wp2_with fail
    refine bodyPost_ret (v := .tuple #[.agg #[.int .i64 0, .int .i64 0], .bool false]) (by simp [results, Try.results28, go_sem, *]) rfl ?_; exact fin _ _ _ _ hno (by (repeat' (first | (with_reducible exact Below.refl _ _) | (with_reducible refine Below.alloc ?_ ?_ _) | (with_reducible refine Below.drew ?_) | (with_reducible refine Below.setCell ?_ ?_ _) | (with_reducible refine Below.trans ?_ (Below.mono (by assumption) ?_)) | go_size)))
  have hd : decide (2 ≤ p ∧ p ≤ 1000) = true := decide_eq_true h1
  obtain ⟨h2, h1000⟩ := h1
  cases hw : wpB p
  · have hno : SplitIs p false 0 0 := ⟨fun _ => ⟨rfl, rfl, fun h => by rw [wpB_iff.2 h.2.2.1] at hw; cases hw⟩, fun h => by cases h⟩
    go_enter Try.func28, Try.ntmps28
    go_wp2_with fail
    (refine (l1In_kind p _).mono ?_; rintro e w2 ⟨rfl, hb2⟩; have hz2 := hb2.size; (repeat (first | rw [World.size_alloc] at hz2 | rw [World.size_setCell] at hz2 | rw [World.size_drew] at hz2)); have pp := T2.K hb2 (b := w.heap.size) (x := _) (y := _) (by (repeat (first | ((with_reducible apply T2.mk) <;> (with_reducible assumption)) | (with_reducible apply T2.Z) | (with_reducible apply T2.O) | ((with_reducible apply T2.B); (focus (simp; done))) | (with_reducible apply T2.A) | (with_reducible apply T2.D) | ((with_reducible apply T2.S); focus ((repeat (first | rw [World.size_alloc] | rw [World.size_setCell] | rw [World.size_drew])); omega)) | ((with_reducible apply T2.K); (focus (with_reducible assumption)))))); obtain ⟨kk3, kk4, fkk3, fkk4⟩ := pp; (try clear kk1 kk2 fkk1 fkk2))
    rw [hd]
    go_wp2_with fail
    (refine (sl5Prime p _ (by omega)).mono ?_; rintro e w1 ⟨rfl, hb1⟩; have hz1 := hb1.size; (repeat (first | rw [World.size_alloc] at hz1 | rw [World.size_setCell] at hz1 | rw [World.size_drew] at hz1)); have pp := T2.K hb1 (b := w.heap.size) (x := _) (y := _) (by (repeat (first | ((with_reducible apply T2.mk) <;> (with_reducible assumption)) | (with_reducible apply T2.Z) | (with_reducible apply T2.O) | ((with_reducible apply T2.B); (focus (simp; done))) | (with_reducible apply T2.A) | (with_reducible apply T2.D) | ((with_reducible apply T2.S); focus ((repeat (first | rw [World.size_alloc] | rw [World.size_setCell] | rw [World.size_drew])); omega)) | ((with_reducible apply T2.K); (focus (with_reducible assumption)))))); obtain ⟨kk5, kk6, fkk5, fkk6⟩ := pp; (try clear kk3 kk4 fkk3 fkk4))
    rw [hw]
    go_wp2_with fail
    refine bodyPost_ret (v := .tuple #[.agg #[.int .i64 0, .int .i64 0], .bool false]) (by simp [results, Try.results28, go_sem, *]) rfl ?_; exact fin _ _ _ _ hno (by (repeat' (first | (with_reducible exact Below.refl _ _) | (with_reducible refine Below.alloc ?_ ?_ _) | (with_reducible refine Below.drew ?_) | (with_reducible refine Below.setCell ?_ ?_ _) | (with_reducible refine Below.trans ?_ (Below.mono (by assumption) ?_)) | go_size)))
  go_enter Try.func28, Try.ntmps28
  go_wp2_with fail
  (refine (l1In_kind p _).mono ?_; rintro e w2 ⟨rfl, hb2⟩; have hz2 := hb2.size; (repeat (first | rw [World.size_alloc] at hz2 | rw [World.size_setCell] at hz2 | rw [World.size_drew] at hz2)); have pp := T2.K hb2 (b := w.heap.size) (x := _) (y := _) (by (repeat (first | ((with_reducible apply T2.mk) <;> (with_reducible assumption)) | (with_reducible apply T2.Z) | (with_reducible apply T2.O) | ((with_reducible apply T2.B); (focus (simp; done))) | (with_reducible apply T2.A) | (with_reducible apply T2.D) | ((with_reducible apply T2.S); focus ((repeat (first | rw [World.size_alloc] | rw [World.size_setCell] | rw [World.size_drew])); omega)) | ((with_reducible apply T2.K); (focus (with_reducible assumption)))))); obtain ⟨kk7, kk8, fkk7, fkk8⟩ := pp; (try clear kk5 kk6 fkk5 fkk6))
  rw [hd]
  go_wp2_with fail
  (refine (sl5Prime p _ (by omega)).mono ?_; rintro e w1 ⟨rfl, hb1⟩; have hz1 := hb1.size; (repeat (first | rw [World.size_alloc] at hz1 | rw [World.size_setCell] at hz1 | rw [World.size_drew] at hz1)); have pp := T2.K hb1 (b := w.heap.size) (x := _) (y := _) (by (repeat (first | ((with_reducible apply T2.mk) <;> (with_reducible assumption)) | (with_reducible apply T2.Z) | (with_reducible apply T2.O) | ((with_reducible apply T2.B); (focus (simp; done))) | (with_reducible apply T2.A) | (with_reducible apply T2.D) | ((with_reducible apply T2.S); focus ((repeat (first | rw [World.size_alloc] | rw [World.size_setCell] | rw [World.size_drew])); omega)) | ((with_reducible apply T2.K); (focus (with_reducible assumption)))))); obtain ⟨kk9, kk10, fkk9, fkk10⟩ := pp; (try clear kk7 kk8 fkk7 fkk8))
  rw [hw]
  go_wp2_with fail
  have hwp := wpB_iff.1 hw
  have HW := Lib.hid hw
  clear hd hw
  go_loopw [4] (fun v wr => ∃ a : Nat, v = .int .i64 (a : Int) ∧ 1 ≤ a ∧ a ≤ 32 ∧ (∀ c d : Int, 1 ≤ c → c < a → 0 ≤ d → d ≤ c → c * c + d * d ≠ p) ∧ w1 = wr) (fun v _ => 100 - (intOf v).toNat)
  case atStart => exact ⟨1, rfl, by omega, by omega, fun c d h1 h2 => by omega, rfl⟩
  case round =>
    obtain ⟨a, rfl, ha, ha2, hno, rfl⟩ := hrel
    have haa : ((a * a : Nat) : Int) = (a : Int) * a := by simp
    have ha3 : a * a ≤ 1024 := Nat.mul_le_mul ha2 ha2
    by_cases hle : (a : Int) * a ≤ p
    · have hd : decide ((a : Int) * a ≤ p) = true := decide_eq_true hle
      have ha31 : a ≤ 31 := by
        rcases Nat.lt_or_ge 31 a with h | h
        · have := Nat.mul_le_mul h h; omega
        · exact h
      go_wp2_with fail
      go_loopw [5] (fun v wr => ∃ b : Nat, v = .int .i64 (b : Int) ∧ b ≤ a + 1 ∧ (∀ d : Int, 0 ≤ d → d < b → (a : Int) * a + d * d ≠ p) ∧ w1 = wr) (fun v _ => 100 - (intOf v).toNat)
      case atStart => exact ⟨0, rfl, by omega, fun d h1 h2 => by omega, rfl⟩
      case round =>
        obtain ⟨b, rfl, hb, hnb, rfl⟩ := hrel
        have hbb : ((b * b : Nat) : Int) = (b : Int) * b := by simp
        have hb3 : b * b ≤ 1024 := Nat.mul_le_mul (show b ≤ 32 by omega) (show b ≤ 32 by omega)
        by_cases hba : b ≤ a
        · have hd2 : decide ((b : Int) ≤ a) = true := decide_eq_true (by omega)
          by_cases he : (a : Int) * a + b * b = p
          · have he' : ((a : Int) * a + b * b == p) = true := by rw [beq_iff_eq]; exact he
            have hyes : SplitIs p true a b := ⟨fun h => (by cases h), fun _ => ⟨h2, h1000, hwp, fun h4 => no_sq h4 he, by omega, by omega, by omega, by omega, he⟩⟩
            go_wp2_with fail
            refine bodyPost_ret (v := .tuple #[.agg #[.int .i64 (a : Int), .int .i64 (b : Int)], .bool true]) (by simp [results, Try.results28, go_sem, *]) rfl ?_; exact fin _ _ _ _ hyes (by (repeat' (first | (with_reducible exact Below.refl _ _) | (with_reducible refine Below.alloc ?_ ?_ _) | (with_reducible refine Below.drew ?_) | (with_reducible refine Below.setCell ?_ ?_ _) | (with_reducible refine Below.trans ?_ (Below.mono (by assumption) ?_)) | go_size)))
          · have he' : ((a : Int) * a + b * b == p) = false := by rw [beq_eq_false_iff_ne]; exact he
            go_wp2_with fail
            go_roundw
            case rel =>
              refine ⟨b + 1, by simp, by omega, fun d h1 h2 => ?_, by simp⟩
              by_cases e : d = b
              · subst e; exact he
              · exact hnb d h1 (by omega)
            case measure => simp [intOf]; omega
        · have hd2 : decide ((b : Int) ≤ a) = false := decide_eq_false (by omega)
          go_wp2_with fail
          go_roundw
          case rel =>
            refine ⟨a + 1, by simp, by omega, by omega, fun c d h1 h2 h3 h4 => ?_, by simp⟩
            by_cases e : c = a
            · subst e; exact hnb d h3 (by omega)
            · exact hno c d h1 (by omega) h3 h4
          case measure => simp [intOf]; omega
    · have hd : decide ((a : Int) * a ≤ p) = false := decide_eq_false hle
      have hnone : SplitIs p false 0 0 := ⟨fun _ => ⟨rfl, rfl, fun h => by
        obtain ⟨c, d, hd0, hdc, -, e, -⟩ := two_sq hwp h1000 h.2.2.2
        have hc : 1 ≤ c := by
          rcases Int.lt_or_le 0 c with h' | h'
          · exact h'
          · obtain rfl : c = 0 := by omega
            obtain rfl : d = 0 := by omega
            omega
        refine hno c d hc ?_ hd0 hdc e
        rcases Int.lt_or_le c a with h' | h'
        · exact h'
        · have := Int.mul_le_mul h' h' (by omega) (by omega)
          have := sq_nn d
          omega⟩, fun h => by cases h⟩
      go_wp2_with fail
      refine bodyPost_ret (v := .tuple #[.agg #[.int .i64 0, .int .i64 0], .bool false]) (by simp [results, Try.results28, go_sem, *]) rfl ?_; exact fin _ _ _ _ hnone (by (repeat' (first | (with_reducible exact Below.refl _ _) | (with_reducible refine Below.alloc ?_ ?_ _) | (with_reducible refine Below.drew ?_) | (with_reducible refine Below.setCell ?_ ?_ _) | (with_reducible refine Below.trans ?_ (Below.mono (by assumption) ?_)) | go_size)))
end Go.Proofs.Ytpjememmogaeiaa
