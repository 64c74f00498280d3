import Derived.Test.YtahnkecdningnaaSk
namespace Go.Proofs.Ytahnkecdningnaa
open Go Go.RowKit
attribute [local go_sem] World.cell?_alloc_some cell?_alloc2_some cell?_alloc3_some cell?_alloc4_some frozen?_alloc_some frozen?_alloc2_some frozen?_alloc3_some World.cell?_setCell_far new_ne0 new_ne1 new_ne2 new_ne3 lt2 lt3 lt4 lt5 lt6 lt7 lt8 lt9
attribute [local go_sem ↓] eqG neG

theorem slice_facts : Try.prog.elem 39 = 24 ∧ Try.prog.underlying 39 = some (.slice (Try.prog.elem 39)) ∧ ∀ W, (sizeOf 24).run Try.prog W = .ok 2 W := by
  obtain ⟨i, hi, -, hz1, -⟩ := info_parts gauss_info
  have hel : Try.prog.elem 39 = 24 := by kernel_rfl
  exact ⟨hel, by rw [hel]; exact Try.underlying39, fun W => by simp [sizeOf, typeInfo, hi, hz1]⟩
/-- The first ones of a list. -/
theorem LO.upto {B : Nat} {W : World} {v : Value} {l : List (Int × Int)} (h : LO B W v l) {k : Nat} (hk : k ≤ l.length) :
    ∃ v', (∀ W', (Instr.slice 39 v none (some (.int .i64 (k : Int))) none).run Try.prog W' = .ok v' W') ∧ LO B W v' (l.take k) := by
  obtain ⟨hel, hun, hsz⟩ := slice_facts
  obtain ⟨a, cap, rfl, h1, h2, h3⟩ := h
  refine ⟨sliced a 0 k cap 2, fun W' => ?_, ?_⟩
  · rw [run_slice_h (P := Try.prog) W' 39 _ _ _ hun .i64 k (by omega) (by omega), hel, hsz]
    simp only [Result.andThen, Int.toNat_natCast]
  · unfold sliced
    rw [Nat.sub_zero, Nat.sub_zero]
    have hl : (l.take k).length = k := by rw [List.length_take]; omega
    refine ⟨_, cap, by rw [hl], by omega, h2, ?_⟩
    rcases h3 with ⟨rfl, rfl⟩ | ⟨g, o, rfl, hg, hA⟩
    · exact .inl ⟨by simp, rfl⟩
    · refine .inr ⟨g, o, ?_, hg, hA.take k⟩
      split
      · rfl
      · simp [Addr.add]
/-- The others. -/
theorem LO.from {B : Nat} {W : World} {v : Value} {l : List (Int × Int)} (h : LO B W v l) {k : Nat} (hk : k ≤ l.length) :
    ∃ v', (∀ W', (Instr.slice 39 v (some (.int .i64 (k : Int))) none none).run Try.prog W' = .ok v' W') ∧ LO B W v' (l.drop k) := by
  obtain ⟨hel, hun, hsz⟩ := slice_facts
  obtain ⟨a, cap, rfl, h1, h2, h3⟩ := h
  refine ⟨sliced a k l.length cap 2, fun W' => ?_, ?_⟩
  · rw [run_slice_l (P := Try.prog) W' 39 _ _ _ hun .i64 k (by omega) (by omega), hel, hsz]
    simp only [Result.andThen, Int.toNat_natCast]
  · unfold sliced
    refine ⟨_, cap - k, by rw [List.length_drop], by rw [List.length_drop]; omega, by omega, ?_⟩
    rcases h3 with ⟨rfl, rfl⟩ | ⟨g, o, rfl, hg, hA⟩
    · exact .inl ⟨by simp, by omega⟩
    · by_cases hc : cap = k
      · refine .inr ⟨g, o, by rw [if_pos hc], hg, fun j x y hj => ?_⟩
        rw [List.drop_of_length_le (by omega)] at hj
        simp at hj
      · refine .inr ⟨g, o + k * 2, ?_, hg, fun j x y hj => ?_⟩
        · rw [if_neg hc]
          simp only [Option.map_some, Addr.add]
          split
          · rename_i h0; rw [h0]; rfl
          · rfl
        · rw [List.getElem?_drop] at hj
          obtain ⟨c0, c1⟩ := hA (k + j) x y hj
          exact ⟨by rw [show o + k * 2 + j * 2 = o + (k + j) * 2 by omega]; exact c0, by rw [show o + k * 2 + j * 2 + 1 = o + (k + j) * 2 + 1 by omega]; exact c1⟩
/-- Between two primes. -/
structure Sr (w : World) (z0 : Int × Int) (x y : Int) (l : List (Int × Int)) (v : Value) (wr : World) : Prop where
  run : Run z0 (x, y) l
  ok : gok x y = true
  nz : 1 ≤ nG (x, y)
  t : Two wr w.heap.size x y
  g : GS wr (w.heap.size + 1) v l
  b : Below w.heap.size w wr
  hs : w.heap.size + 1 ≤ wr.heap.size
theorem Sr.below {w : World} {z0 : Int × Int} {x y : Int} {l : List (Int × Int)} {v : Value} {wr wx : World} (h : Sr w z0 x y l v wr) (hb : Below wr.heap.size wr wx) : Sr w z0 x y l v wx :=
  ⟨h.run, h.ok, h.nz, keep_two (Keep.of_below (fun _ => True) hb) trivial h.t, h.g.below hb, h.b.trans (hb.mono (by have := h.hs; omega)), by have := hb.size; have := h.hs; omega⟩
theorem run_len {z0 z : Int × Int} {l : List (Int × Int)} (h : Run z0 z l) (h1 : 1 ≤ nG z) (hz : nG z0 ≤ 2000000) : l.length ≤ 20 := by
  have h0 : nG z0 ≠ 0 := fun e => by
    have := nG_mu z (prodG l)
    rw [h.prod, e] at this
    have h2 := prodG_nG h.pr
    rcases Int.mul_eq_zero.1 this.symm with h' | h'
    · omega
    · exact h2 h'
  exact few_primes (u := z) h.pr h.prod h0 hz

set_option maxRecDepth 100000 in
set_option maxHeartbeats 16000000 in
theorem sFactorsOf_v {a b t : Int} {o : Bool} {l : List (Int × Int)} (w : World) (h : FacIs a b o t l) :
    Calls Try.prog 56 #[.agg #[.int .i64 a, .int .i64 b]] w fun e w' => ∃ v, e = .returned (.tuple #[.int .i64 t, v, .bool o]) ∧ GS w' w.heap.size v l ∧ Below w.heap.size w w' := by
  cases k1 : gok a b
  · obtain ⟨rfl, rfl, rfl⟩ := h.no (by simp only [faO, k1, Bool.false_and])
    go_enter Try.func56, Try.ntmps56
    go_wp2_with fail
    (refine (sGaussOk _ _ _).mono ?_; rintro e w1 ⟨rfl, hb1⟩; have hz1 := hb1.size; (repeat (first | rw [World.size_alloc] at hz1 | rw [World.size_setCell] at hz1 | rw [World.size_drew] at hz1)); have pp := C2.K hb1 (b := w.heap.size) (x := _) (y := _) (by (repeat (first | ((with_reducible apply C2.mk) <;> (with_reducible assumption)) | (with_reducible apply C2.Z) | (with_reducible apply C2.O) | ((with_reducible apply C2.B); (focus (simp; done))) | (with_reducible apply C2.A) | (with_reducible apply C2.D) | ((with_reducible apply C2.S); focus ((repeat (first | rw [World.size_alloc] | rw [World.size_setCell] | rw [World.size_drew])); omega)) | ((with_reducible apply C2.K); (focus (with_reducible assumption)))))); obtain ⟨kk1, kk2⟩ := pp)
    go_wp2_with fail
    go_returns
    exact ⟨_, rfl, (World.ownsRow_lit w1 #[] 0 (base := w.heap.size) (e := 24) (size := 2) (by omega) (by decide) rfl), by (repeat' (first | (with_reducible exact Below.refl _ _) | (with_reducible refine Below.alloc ?_ ?_ _) | (with_reducible refine Below.drew ?_) | (with_reducible refine Below.setCell ?_ ?_ _) | (with_reducible refine Below.trans ?_ (Below.mono (by assumption) ?_)) | go_size))⟩
  cases hz : (a == 0 && b == 0)
  case true =>
    obtain ⟨rfl, rfl, rfl⟩ := h.no (by simp only [faO, hz, Bool.not_true, Bool.and_false])
    go_enter Try.func56, Try.ntmps56
    go_wp2_with fail
    (refine (sGaussOk _ _ _).mono ?_; rintro e w1 ⟨rfl, hb1⟩; have hz1 := hb1.size; (repeat (first | rw [World.size_alloc] at hz1 | rw [World.size_setCell] at hz1 | rw [World.size_drew] at hz1)); have pp := C2.K hb1 (b := w.heap.size) (x := _) (y := _) (by (repeat (first | ((with_reducible apply C2.mk) <;> (with_reducible assumption)) | (with_reducible apply C2.Z) | (with_reducible apply C2.O) | ((with_reducible apply C2.B); (focus (simp; done))) | (with_reducible apply C2.A) | (with_reducible apply C2.D) | ((with_reducible apply C2.S); focus ((repeat (first | rw [World.size_alloc] | rw [World.size_setCell] | rw [World.size_drew])); omega)) | ((with_reducible apply C2.K); (focus (with_reducible assumption)))))); obtain ⟨kk3, kk4⟩ := pp; (try clear kk1 kk2))
    go_wp2_with fail
    go_returns
    exact ⟨_, rfl, (World.ownsRow_lit w1 #[] 0 (base := w.heap.size) (e := 24) (size := 2) (by omega) (by decide) rfl), by (repeat' (first | (with_reducible exact Below.refl _ _) | (with_reducible refine Below.alloc ?_ ?_ _) | (with_reducible refine Below.drew ?_) | (with_reducible refine Below.setCell ?_ ?_ _) | (with_reducible refine Below.trans ?_ (Below.mono (by assumption) ?_)) | go_size))⟩
  have ho : faO a b = true := by simp only [faO, k1, hz]; rfl
  obtain ⟨-, hnz, -⟩ := faO_is ho
  have hN0 := nG_gok (z := (a, b)) k1
  obtain ⟨z0, hz0⟩ : ∃ z0, (a, b) = z0 := ⟨_, rfl⟩
  have hfin : ∀ s k, Facs z0 s k → o = true ∧ t = s ∧ l = k := fun s k hf => h.yes ho (by rw [hz0]; exact hf)
  have hrun := Run.start (a, b)
  rw [hz0] at hN0
  rw [show Run (a, b) (a, b) [] = Run z0 (a, b) [] by rw [hz0]] at hrun
  clear h ho hz0
  go_enter Try.func56, Try.ntmps56
  go_wp2_with fail
  (refine (sGaussOk _ _ _).mono ?_; rintro e w1 ⟨rfl, hb1⟩; have hz1 := hb1.size; (repeat (first | rw [World.size_alloc] at hz1 | rw [World.size_setCell] at hz1 | rw [World.size_drew] at hz1)); have pp := T2.K hb1 (b := w.heap.size) (x := _) (y := _) (by (repeat (first | ((with_reducible apply T2.mk) <;> (with_reducible assumption)) | (with_reducible apply T2.Z) | (with_reducible apply T2.O) | ((with_reducible apply T2.B); (focus (simp; done))) | (with_reducible apply T2.A) | (with_reducible apply T2.D) | ((with_reducible apply T2.S); focus ((repeat (first | rw [World.size_alloc] | rw [World.size_setCell] | rw [World.size_drew])); omega)) | ((with_reducible apply T2.K); (focus (with_reducible assumption)))))); obtain ⟨kk5, kk6, fkk5, fkk6⟩ := pp; (try clear kk3 kk4))
  go_wp2_with fail
  go_loopw [5] (fun v wr => ∃ (x y : Int) (l : List (Int × Int)), Sr w z0 x y l v wr) (fun _ wr => ms wr w.heap.size)
  case atStart =>
    exact ⟨a, b, [], hrun, k1, hnz, (Two.of (by (repeat (first | ((with_reducible apply T2.mk) <;> (with_reducible assumption)) | (with_reducible apply T2.Z) | (with_reducible apply T2.O) | ((with_reducible apply T2.B); (focus (simp; done))) | (with_reducible apply T2.A) | (with_reducible apply T2.D) | ((with_reducible apply T2.S); focus ((repeat (first | rw [World.size_alloc] | rw [World.size_setCell] | rw [World.size_drew])); omega)) | ((with_reducible apply T2.K); (focus (with_reducible assumption))))))), (World.ownsRow_lit w1 #[] 0 (base := w.heap.size + 1) (e := 24) (size := 2) (by omega) (by decide) rfl), by (repeat' (first | (with_reducible exact Below.refl _ _) | (with_reducible refine Below.alloc ?_ ?_ _) | (with_reducible refine Below.drew ?_) | (with_reducible refine Below.setCell ?_ ?_ _) | (with_reducible refine Below.trans ?_ (Below.mono (by assumption) ?_)) | go_size)), by simp; omega⟩
  case round =>
    clear hrun k1 hnz hz
    obtain ⟨x, y, L, hq⟩ := hrel
    obtain ⟨a5, cap5, rfl⟩ := hq.g.lo.lr
    have kxy := hq.ok
    have hnz := hq.nz
    have hsr := hq.hs
    obtain ⟨N, hN⟩ : ∃ N, x * x + y * y = N := ⟨_, rfl⟩
    have hNG : nG (x, y) = N := hN
    rw [hNG] at hnz
    obtain ⟨z0', z1', z2', z3'⟩ := hq.t
    by_cases hle : 1 < N
    · have hd : decide (1 < N) = true := decide_eq_true hle
      have hlen := run_len hq.run hq.nz hN0
      have h2N : 2 ≤ nG (x, y) := by rw [hNG]; omega
      have hms : ms wr w.heap.size = N.toNat := by rw [ms_eq z0' z1', hN]
      go_wp2_with fail
      (refine (slNorm_v _ kxy hN).mono ?_; rintro e w2 ⟨rfl, hb2⟩; have hz2 := hb2.size; (repeat (first | rw [World.size_alloc] at hz2 | rw [World.size_setCell] at hz2 | rw [World.size_drew] at hz2)); have pp := T2.K hb2 (b := w.heap.size) (x := _) (y := _) (by (repeat (first | ((with_reducible apply T2.mk) <;> (with_reducible assumption)) | (with_reducible apply T2.Z) | (with_reducible apply T2.O) | ((with_reducible apply T2.B); (focus (simp; done))) | (with_reducible apply T2.A) | (with_reducible apply T2.D) | ((with_reducible apply T2.S); focus ((repeat (first | rw [World.size_alloc] | rw [World.size_setCell] | rw [World.size_drew])); omega)) | ((with_reducible apply T2.K); (focus (with_reducible assumption)))))); obtain ⟨kk7, kk8, fkk7, fkk8⟩ := pp; (try clear kk5 kk6 fkk5 fkk6))
      have hq2 := hq.below hb2
      go_wp2_with fail
      (refine (l6Least x y _ kxy h2N).mono ?_; rintro e w3 ⟨u, v, rfl, hpq, hdv, kuv, hb3⟩; have hz3 := hb3.size; (repeat (first | rw [World.size_alloc] at hz3 | rw [World.size_setCell] at hz3 | rw [World.size_drew] at hz3)); have pp := T2.K hb3 (b := w.heap.size) (x := _) (y := _) (by (repeat (first | ((with_reducible apply T2.mk) <;> (with_reducible assumption)) | (with_reducible apply T2.Z) | (with_reducible apply T2.O) | ((with_reducible apply T2.B); (focus (simp; done))) | (with_reducible apply T2.A) | (with_reducible apply T2.D) | ((with_reducible apply T2.S); focus ((repeat (first | rw [World.size_alloc] | rw [World.size_setCell] | rw [World.size_drew])); omega)) | ((with_reducible apply T2.K); (focus (with_reducible assumption)))))); obtain ⟨kk9, kk10, fkk9, fkk10⟩ := pp; (try clear kk7 kk8 fkk7 fkk8))
      have hq3 := hq2.below hb3
      clear hq hq2 z0' z1' z2' z3'
      have hdo : dvO x y u v = true := dv_mk kxy kuv (fun ⟨h1, h2⟩ => by have := pr_nG hpq.prI; subst h1 h2; exact absurd this (by decide))
      have hvd := vd_Dv.2 ⟨hdo, dvG_Dv.1 hdv⟩
      obtain ⟨e1, e2⟩ := vd_q hvd
      have kq := q_gok hvd
      obtain ⟨qx, hqx⟩ : ∃ qx, qA x y u v = qx := ⟨_, rfl⟩
      obtain ⟨qy, hqy⟩ : ∃ qy, qB x y u v = qy := ⟨_, rfl⟩
      rw [hqx, hqy] at e1 e2 kq
      have hmu : (x, y) = mu (u, v) (qx, qy) := by
        unfold mu
        refine Prod.ext ?_ ?_
        · dsimp only; rw [Int.mul_comm u, Int.mul_comm v]; exact e1
        · dsimp only; rw [Int.mul_comm u, Int.mul_comm v, Int.add_comm]; exact e2
      clear e1 e2 hvd
      have n1 : (w.heap.size = w3.heap.size) = False := by simp; omega
      have n2 : (w3.heap.size = w.heap.size) = False := by simp; omega
      go_wp2_with fail
      (refine (l3Divided_v _ hdo ⟨hqx, hqy, rfl, rfl⟩).mono ?_; rintro e w4 ⟨rfl, hb4⟩; have hz4 := hb4.size; (repeat (first | rw [World.size_alloc] at hz4 | rw [World.size_setCell] at hz4 | rw [World.size_drew] at hz4)); have pp := T2.K hb4 (b := w.heap.size) (x := _) (y := _) (by (repeat (first | ((with_reducible apply T2.mk) <;> (with_reducible assumption)) | (with_reducible apply T2.Z) | (with_reducible apply T2.O) | ((with_reducible apply T2.B); (focus (simp; done))) | (with_reducible apply T2.A) | (with_reducible apply T2.D) | ((with_reducible apply T2.S); focus ((repeat (first | rw [World.size_alloc] | rw [World.size_setCell] | rw [World.size_drew])); omega)) | ((with_reducible apply T2.K); (focus (with_reducible assumption)))))); obtain ⟨kk11, kk12, fkk11, fkk12⟩ := pp; have pp := C2.K hb4 (b := w3.heap.size) (x := _) (y := _) (by (repeat (first | ((with_reducible apply C2.mk) <;> (with_reducible assumption)) | (with_reducible apply C2.Z) | (with_reducible apply C2.O) | ((with_reducible apply C2.B); (focus (simp; done))) | (with_reducible apply C2.A) | (with_reducible apply C2.D) | ((with_reducible apply C2.S); focus ((repeat (first | rw [World.size_alloc] | rw [World.size_setCell] | rw [World.size_drew])); omega)) | ((with_reducible apply C2.K); (focus (with_reducible assumption)))))); obtain ⟨kk13, kk14⟩ := pp; (try clear kk9 kk10 fkk9 fkk10))
      have hq4 := (hq3.below (wx := w3.alloc (.cells #[.int .i64 u, .int .i64 v] 24)) (by (repeat' (first | (with_reducible exact Below.refl _ _) | (with_reducible refine Below.alloc ?_ ?_ _) | (with_reducible refine Below.drew ?_) | (with_reducible refine Below.setCell ?_ ?_ _) | (with_reducible refine Below.trans ?_ (Below.mono (by assumption) ?_)) | go_size)))).below hb4
      clear hq3 hdo hqx hqy
      go_wp2_with fail
      refine wp_nm (fun W => Two W w.heap.size qx qy ∧ C2 W w3.heap.size (.int .i64 u) (.int .i64 v) ∧ GS W (w.heap.size + 1) (.slice a5 L.length cap5) L ∧ Below w.heap.size w W ∧ w3.heap.size < W.heap.size) ⟨(Two.of (by (repeat (first | ((with_reducible apply T2.mk) <;> (with_reducible assumption)) | (with_reducible apply T2.Z) | (with_reducible apply T2.O) | ((with_reducible apply T2.B); (focus (simp; done))) | (with_reducible apply T2.A) | (with_reducible apply T2.D) | ((with_reducible apply T2.S); focus ((repeat (first | rw [World.size_alloc] | rw [World.size_setCell] | rw [World.size_drew])); omega)) | ((with_reducible apply T2.K); (focus (with_reducible assumption))))))), by (repeat (first | ((with_reducible apply C2.mk) <;> (with_reducible assumption)) | (with_reducible apply C2.Z) | (with_reducible apply C2.O) | ((with_reducible apply C2.B); (focus (simp; done))) | (with_reducible apply C2.A) | (with_reducible apply C2.D) | ((with_reducible apply C2.S); focus ((repeat (first | rw [World.size_alloc] | rw [World.size_setCell] | rw [World.size_drew])); omega)) | ((with_reducible apply C2.K); (focus (with_reducible assumption))))), hq4.g.kept (((Keep.refl (fun b => b ≠ w.heap.size) _).setCell (fun h => h rfl) _).setCell (fun h => h rfl) _) (fun g hg => by have := (hq4.g.lt g hg).1; omega), (hq4.b.setCell (Nat.le_refl _) _).setCell (Nat.le_refl _) _, by simp; omega⟩ ?_
      rintro W5 ⟨t5, c5, g5, b5, s5⟩
      have nq : 1 ≤ nG (qx, qy) := nG_pos (fun e => by rw [e, mu_comm] at hmu; unfold mu at hmu; simp at hmu; rw [hmu.1, hmu.2] at h2N; exact absurd h2N (by decide))
      have hdec : qx * qx + qy * qy < N ∧ 0 ≤ qx * qx + qy * qy := by
        have h1 := nG_mu (u, v) (qx, qy)
        rw [← hmu, hNG] at h1
        have h2 := pr_nG hpq.prI
        have h3 := Int.mul_le_mul_of_nonneg_right h2 (show 0 ≤ nG (qx, qy) by omega)
        have h4 : nG (qx, qy) = qx * qx + qy * qy := rfl
        rw [h4] at h1 h3 nq
        omega
      obtain ⟨hdec1, hdec2⟩ := hdec
      have hpr := hq4.run.pr
      clear hdv h2N
      go_loopw [7] (fun z7 wr => ∃ k : Nat, z7 = .int .i64 (k : Int) ∧ k ≤ L.length ∧ (∀ (i : Nat) (q : Int × Int), k ≤ i → L[i]? = some q → ltD (u, v) q) ∧ Below W5.heap.size W5 wr) (fun z7 _ => (intOf z7).toNat)
      case atStart => exact ⟨L.length, rfl, Nat.le_refl _, fun i q h1 h2 => (by rw [List.getElem?_eq_none h1] at h2; cases h2), Below.refl _ _⟩
      case round =>
        obtain ⟨k, rfl, hk, hltk, hb⟩ := hrel
        cases k with
        | zero =>
          go_upto_region 8 with fail
          refine wp_name ?_
          intro w6 hb6
          refine wp_region_quiet_below (by kernel_rfl) (by kernel_rfl) ?_
          (repeat (first | go_big_quiet_step (fail) | quiet_step (fail)))
          refine wpQuiet_nil ?_
          intro w7 hw
          have hb7 := below_of_regrown hw
          clear hw
          have hbw : Below W5.heap.size W5 w7 := (hb.trans (hb6.mono hb.size)).trans (hb7.mono (by have := hb.size; have := hb6.size; omega))
          clear hb hb6 hb7
          have hak : 0 < 0 → ∀ q, L[0 - 1]? = some q → leD q (u, v) := fun h => by omega
          have t7 := keep_two (Keep.of_below (fun _ => True) hbw) trivial t5
          have c7 := C2.K hbw c5
          have g7 := g5.below hbw
          have b7 := b5.trans (hbw.mono (by omega))
          have hs7 := hbw.size
          have hrun' := hq4.run.step hpq hmu hk hltk hak
          obtain ⟨vA, sA, lA⟩ := g7.lo.upto hk
          obtain ⟨vB, sB, lB⟩ := g7.lo.from hk
          rw [show ((0 : Nat) : Int) = 0 from rfl] at sA sB
          have gE : GS (w7.alloc (.cells #[] 24)) w7.heap.size (.slice (some ⟨w7.heap.size, 0, none⟩) 0 0) [] := World.ownsRow_lit w7 #[] 0 (Nat.le_refl _) (by decide) rfl
          have bE : Below w7.heap.size w7 (w7.alloc (.cells #[] 24)) := by (repeat' (first | (with_reducible exact Below.refl _ _) | (with_reducible refine Below.alloc ?_ ?_ _) | (with_reducible refine Below.drew ?_) | (with_reducible refine Below.setCell ?_ ?_ _) | (with_reducible refine Below.trans ?_ (Below.mono (by assumption) ?_)) | go_size))
          have lA' := lA.below bE
          have lB' := lB.below bE
          have tE := keep_two (Keep.of_below (fun _ => True) bE) trivial t7
          have cE := C2.K bE c7
          have wE := b7.trans (bE.mono (by omega))
          have x1 : ([] : List (Int × Int)).length + (L.take 0).length ≤ 8000000 := by simp only [List.length_nil, List.length_take]; omega
          have x2 : ([] ++ L.take 0).length + [(u, v)].length ≤ 8000000 := by simp only [List.length_append, List.length_nil, List.length_take, List.length_cons]; omega
          have x3 : ([] ++ L.take 0 ++ [(u, v)]).length + (L.drop 0).length ≤ 8000000 := by simp only [List.length_append, List.length_nil, List.length_take, List.length_cons, List.length_drop]; omega
          have X1 := Lib.hid x1
          have X2 := Lib.hid x2
          have X3 := Lib.hid x3
          have e3 : [] ++ L.take 0 ++ [(u, v)] ++ L.drop 0 = L.take 0 ++ (u, v) :: L.drop 0 := by simp
          have HR := Lib.hid hrun'
          have E3 := Lib.hid e3
          have hle7 : w.heap.size + 1 ≤ w7.heap.size := by omega
          clear t7 c7 g7 b7 lA lB hrun' hltk hak hbw bE x1 x2 x3 e3
          go_wp2_with (at_builtin; first | (refine appLPl _ rfl _ _ rfl w7.heap.size _ [] (L.take 0) rfl gE w7.heap.size vA rfl lA' X1.out (by simp) ?_; intro v8 w8 g8 gr8 at8; have k8 := grown_keep gr8; have t8 := keep_two k8 (gE.ne (by omega)) tE; have c8 : C2 w8 w3.heap.size (.int .i64 u) (.int .i64 v) := ⟨k8.cell (gE.ne (by dsimp only; omega)) cE.c0, k8.cell (gE.ne (by dsimp only; omega)) cE.c1⟩; obtain ⟨c80, c81⟩ := c8; have lB8 := lB'.keep k8 (fun b hb => gE.ne (by omega)); have w8b := wE.trans (k8.below (fun b hb => gE.ne (by omega)) (by simp; omega)); have s8 := k8.size; rw [World.size_alloc] at s8) | (refine appLPl _ rfl _ _ rfl w7.heap.size v8 ([] ++ L.take 0) [(u, v)] rfl (GS.alloc g8 _) (w8.heap.size + 1) _ rfl (lo_new rfl) X2.out (by simp; omega) ?_; intro v9 w9 g9 gr9 at9; have k9 := grown_keep gr9; have t9 := keep_two k9 (g8.ne (by omega)) (keep_two (Keep.alloc (Keep.refl (fun _ => True) w8) _) trivial t8); have lB9 := (lB8.keep (Keep.alloc (Keep.refl (fun _ => True) w8) _) (fun _ _ => trivial)).keep k9 (fun b hb => g8.ne (by omega)); have w9b := w8b.trans ((((Keep.alloc (Keep.refl (fun _ => True) w8) _).mono (fun _ _ _ => trivial)).trans k9).below (fun b hb => g8.ne (by omega)) (by omega)); have s9 := k9.size; rw [World.size_alloc] at s9) | (refine appLPl _ rfl _ _ rfl w7.heap.size v9 ([] ++ L.take 0 ++ [(u, v)]) (L.drop 0) rfl g9 w7.heap.size vB rfl lB9 X3.out (by omega) ?_; intro v10 w10 g10 gr10 at10; have k10 := grown_keep gr10; have t10 := keep_two k10 (g9.ne (by omega)) t9; have w10b := w9b.trans (k10.below (fun b hb => g9.ne (by omega)) (by omega)); have s10 := k10.size))
          rw [E3.out] at g10
          go_roundw
          case rel => exact ⟨qx, qy, _, HR.out, kq, nq, t10, g10.mono (by omega), w10b, by omega⟩
          case measure => rw [hms, ms_eq t10.c0 t10.c1]; omega
        | succ j =>
          obtain ⟨⟨c, d⟩, hcd⟩ : ∃ q, L[j]? = some q := ⟨_, List.getElem?_eq_getElem (by omega)⟩
          have kcd : gok c d = true := (hpr _ (List.mem_of_getElem? hcd)).prI.1
          have hne : L ≠ [] := by rintro rfl; simp at hk
          obtain ⟨gg, cap, e, -, hgg, hA, -⟩ := g5.at hne
          injection e with e1 e2 e3
          subst e1 e3
          obtain ⟨a0, a1⟩ := hA j c d hcd
          have hjl : j < L.length := by omega
          have d0 := keep hb a0
          have d1 := keep hb a1
          have d2 := keep hb c5.c0
          have d3 := keep hb c5.c1
          clear a0 a1 hA
          cases ho : decide (ltD (u, v) (c, d))
          · have hC : ∀ W, Calls Try.prog 80 #[.agg #[.int .i64 u, .int .i64 v], .agg #[.int .i64 c, .int .i64 d]] W fun e w' => e = .returned (.bool false) ∧ Below W.heap.size W w' := fun W => l6Less W kuv kcd ho
            have hleD : leD (c, d) (u, v) := of_decide_eq_false ho
            clear ho
            go_upto_region 8 with fail
            refine wp_name ?_
            intro w6 hb6
            have e0 := keep hb6 d0
            have e1 := keep hb6 d1
            have e2 := keep hb6 d2
            have e3 := keep hb6 d3
            have r0 := cell_regrown e0
            have r1 := cell_regrown e1
            have r2 := cell_regrown e2
            have r3 := cell_regrown e3
            clear d0 d1 d2 d3
            refine wp_region_quiet_below (by kernel_rfl) (by kernel_rfl) ?_
            (repeat (first | go_big_quiet_step ((first | (go_at_call 80; exact Calls.regrown_of (hC _)))) | quiet_step ((first | (go_at_call 80; exact Calls.regrown_of (hC _))))))
            refine wpQuiet_nil ?_
            intro w7 hw
            have hb7 := below_of_regrown hw
            clear hw
            have hbw : Below W5.heap.size W5 w7 := (hb.trans (hb6.mono hb.size)).trans (hb7.mono (by have := hb.size; have := hb6.size; omega))
            clear hb hb6 hb7 e0 e1 e2 e3 r0 r1 r2 r3 hC
            have hak : 0 < j + 1 → ∀ q, L[j + 1 - 1]? = some q → leD q (u, v) := fun _ q h => by
              rw [Nat.add_sub_cancel, hcd] at h; cases h; exact hleD
            clear hleD
            have t7 := keep_two (Keep.of_below (fun _ => True) hbw) trivial t5
            have c7 := C2.K hbw c5
            have g7 := g5.below hbw
            have b7 := b5.trans (hbw.mono (by omega))
            have hs7 := hbw.size
            have hrun' := hq4.run.step hpq hmu hk hltk hak
            obtain ⟨vA, sA, lA⟩ := g7.lo.upto hk
            obtain ⟨vB, sB, lB⟩ := g7.lo.from hk
            rw [show ((j + 1 : Nat) : Int) = (j : Int) + 1 by simp] at sA sB
            have gE : GS (w7.alloc (.cells #[] 24)) w7.heap.size (.slice (some ⟨w7.heap.size, 0, none⟩) 0 0) [] := World.ownsRow_lit w7 #[] 0 (Nat.le_refl _) (by decide) rfl
            have bE : Below w7.heap.size w7 (w7.alloc (.cells #[] 24)) := by (repeat' (first | (with_reducible exact Below.refl _ _) | (with_reducible refine Below.alloc ?_ ?_ _) | (with_reducible refine Below.drew ?_) | (with_reducible refine Below.setCell ?_ ?_ _) | (with_reducible refine Below.trans ?_ (Below.mono (by assumption) ?_)) | go_size))
            have lA' := lA.below bE
            have lB' := lB.below bE
            have tE := keep_two (Keep.of_below (fun _ => True) bE) trivial t7
            have cE := C2.K bE c7
            have wE := b7.trans (bE.mono (by omega))
            have x1 : ([] : List (Int × Int)).length + (L.take (j + 1)).length ≤ 8000000 := by simp only [List.length_nil, List.length_take]; omega
            have x2 : ([] ++ L.take (j + 1)).length + [(u, v)].length ≤ 8000000 := by simp only [List.length_append, List.length_nil, List.length_take, List.length_cons]; omega
            have x3 : ([] ++ L.take (j + 1) ++ [(u, v)]).length + (L.drop (j + 1)).length ≤ 8000000 := by simp only [List.length_append, List.length_nil, List.length_take, List.length_cons, List.length_drop]; omega
            have X1 := Lib.hid x1
            have X2 := Lib.hid x2
            have X3 := Lib.hid x3
            have e3 : [] ++ L.take (j + 1) ++ [(u, v)] ++ L.drop (j + 1) = L.take (j + 1) ++ (u, v) :: L.drop (j + 1) := by simp
            have HR := Lib.hid hrun'
            have E3 := Lib.hid e3
            have hle7 : w.heap.size + 1 ≤ w7.heap.size := by omega
            clear t7 c7 g7 b7 lA lB hrun' hltk hak hbw bE x1 x2 x3 e3
            go_wp2_with (at_builtin; first | (refine appLPl _ rfl _ _ rfl w7.heap.size _ [] (L.take (j + 1)) rfl gE w7.heap.size vA rfl lA' X1.out (by simp) ?_; intro v8 w8 g8 gr8 at8; have k8 := grown_keep gr8; have t8 := keep_two k8 (gE.ne (by omega)) tE; have c8 : C2 w8 w3.heap.size (.int .i64 u) (.int .i64 v) := ⟨k8.cell (gE.ne (by dsimp only; omega)) cE.c0, k8.cell (gE.ne (by dsimp only; omega)) cE.c1⟩; obtain ⟨c80, c81⟩ := c8; have lB8 := lB'.keep k8 (fun b hb => gE.ne (by omega)); have w8b := wE.trans (k8.below (fun b hb => gE.ne (by omega)) (by simp; omega)); have s8 := k8.size; rw [World.size_alloc] at s8) | (refine appLPl _ rfl _ _ rfl w7.heap.size v8 ([] ++ L.take (j + 1)) [(u, v)] rfl (GS.alloc g8 _) (w8.heap.size + 1) _ rfl (lo_new rfl) X2.out (by simp; omega) ?_; intro v9 w9 g9 gr9 at9; have k9 := grown_keep gr9; have t9 := keep_two k9 (g8.ne (by omega)) (keep_two (Keep.alloc (Keep.refl (fun _ => True) w8) _) trivial t8); have lB9 := (lB8.keep (Keep.alloc (Keep.refl (fun _ => True) w8) _) (fun _ _ => trivial)).keep k9 (fun b hb => g8.ne (by omega)); have w9b := w8b.trans ((((Keep.alloc (Keep.refl (fun _ => True) w8) _).mono (fun _ _ _ => trivial)).trans k9).below (fun b hb => g8.ne (by omega)) (by omega)); have s9 := k9.size; rw [World.size_alloc] at s9) | (refine appLPl _ rfl _ _ rfl w7.heap.size v9 ([] ++ L.take (j + 1) ++ [(u, v)]) (L.drop (j + 1)) rfl g9 w7.heap.size vB rfl lB9 X3.out (by omega) ?_; intro v10 w10 g10 gr10 at10; have k10 := grown_keep gr10; have t10 := keep_two k10 (g9.ne (by omega)) t9; have w10b := w9b.trans (k10.below (fun b hb => g9.ne (by omega)) (by omega)); have s10 := k10.size))
            rw [E3.out] at g10
            go_roundw
            case rel => exact ⟨qx, qy, _, HR.out, kq, nq, t10, g10.mono (by omega), w10b, by omega⟩
            case measure => rw [hms, ms_eq t10.c0 t10.c1]; omega
          · have hC : ∀ W, Calls Try.prog 80 #[.agg #[.int .i64 u, .int .i64 v], .agg #[.int .i64 c, .int .i64 d]] W fun e w' => e = .returned (.bool true) ∧ Below W.heap.size W w' := fun W => l6Less W kuv kcd ho
            have hlt' : ∀ (i : Nat) (q : Int × Int), j ≤ i → L[i]? = some q → ltD (u, v) q := fun i q h1 h2 => by
              by_cases he : i = j
              · subst he; rw [hcd] at h2; cases h2; exact of_decide_eq_true ho
              · exact hltk i q (by omega) h2
            clear ho hltk
            go_upto_region 8 with fail
            refine wp_name ?_
            intro w6 hb6
            have e0 := keep hb6 d0
            have e1 := keep hb6 d1
            have e2 := keep hb6 d2
            have e3 := keep hb6 d3
            have r0 := cell_regrown e0
            have r1 := cell_regrown e1
            have r2 := cell_regrown e2
            have r3 := cell_regrown e3
            clear d0 d1 d2 d3
            refine wp_region_quiet_below (by kernel_rfl) (by kernel_rfl) ?_
            (repeat (first | go_big_quiet_step ((first | (go_at_call 80; exact Calls.regrown_of (hC _)))) | quiet_step ((first | (go_at_call 80; exact Calls.regrown_of (hC _))))))
            refine wpQuiet_nil ?_
            intro w7 hw
            have hb7 := below_of_regrown hw
            clear hw
            have hbw : Below W5.heap.size W5 w7 := (hb.trans (hb6.mono hb.size)).trans (hb7.mono (by have := hb.size; have := hb6.size; omega))
            clear hb hb6 hb7 e0 e1 e2 e3 r0 r1 r2 r3 hC
            go_wp2_with fail
            go_roundw
            case rel => exact ⟨j, by simp, by omega, hlt', hbw⟩
            case measure => simp [intOf] <;> omega
    · have hd : decide (1 < N) = false := decide_eq_false hle
      have h1 : nG (x, y) = 1 := by rw [hNG]; omega
      obtain ⟨fx, hfx⟩ : ∃ fx, frA x y = fx := ⟨_, rfl⟩
      obtain ⟨fy, hfy⟩ : ∃ fy, frB x y = fy := ⟨_, rfl⟩
      have hft : (4 - fiK x y) % 4 = fiT x y := by rw [fiT, kxy, if_pos rfl]
      obtain ⟨rfl, rfl, rfl⟩ := hfin _ _ (hq.run.done h1)
      try dsimp only
      obtain ⟨x1, x2, y1, y2⟩ := gok_bd kxy
      go_wp2_with fail
      (refine (slNorm_v _ kxy hN).mono ?_; rintro e w2 ⟨rfl, hb2⟩; have hz2 := hb2.size; (repeat (first | rw [World.size_alloc] at hz2 | rw [World.size_setCell] at hz2 | rw [World.size_drew] at hz2)); have pp := T2.K hb2 (b := w.heap.size) (x := _) (y := _) (by (repeat (first | ((with_reducible apply T2.mk) <;> (with_reducible assumption)) | (with_reducible apply T2.Z) | (with_reducible apply T2.O) | ((with_reducible apply T2.B); (focus (simp; done))) | (with_reducible apply T2.A) | (with_reducible apply T2.D) | ((with_reducible apply T2.S); focus ((repeat (first | rw [World.size_alloc] | rw [World.size_setCell] | rw [World.size_drew])); omega)) | ((with_reducible apply T2.K); (focus (with_reducible assumption)))))); obtain ⟨kk15, kk16, fkk15, fkk16⟩ := pp; (try clear kk11 kk12 fkk11 fkk12 kk13 kk14))
      have hq2 := hq.below hb2
      go_wp2_with fail
      (refine (l2First_v _ (by omega) (by omega) (by omega) (by omega) ⟨hfx, hfy, hft⟩).mono ?_; rintro e w3 ⟨rfl, hb3⟩; have hz3 := hb3.size; (repeat (first | rw [World.size_alloc] at hz3 | rw [World.size_setCell] at hz3 | rw [World.size_drew] at hz3)); (try clear kk15 kk16 fkk15 fkk16))
      have hq3 := hq2.below hb3
      clear hq hq2
      have HG := Lib.hid (hq3.below (wx := w3.alloc (.cells #[.int .i64 fx, .int .i64 fy] 24)) (by (repeat' (first | (with_reducible exact Below.refl _ _) | (with_reducible refine Below.alloc ?_ ?_ _) | (with_reducible refine Below.drew ?_) | (with_reducible refine Below.setCell ?_ ?_ _) | (with_reducible refine Below.trans ?_ (Below.mono (by assumption) ?_)) | go_size))))
      clear hq3
      go_wp2_with fail
      go_returns
      exact ⟨_, rfl, HG.out.g.mono (by omega), HG.out.b⟩
end Go.Proofs.Ytahnkecdningnaa
