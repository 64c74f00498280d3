import Derived.Test.YtahnkecdningnaaSh
import Derived.Test.YtahnkecdningnaaSa
import Derived.Test.YtahnkecdningnaaHc
import Derived.Test.YtahnkecdningnaaHx
import Derived.OwnWalkIn
import Derived.RangeFuncNested
import Derived.Test.YtahnkecdningnaaYi
import Derived.TacticsInMore
namespace Go.Proofs.Ytahnkecdningnaa
open Go Go.RowKit Go.Shelf
attribute [local go_sem] World.cell?_alloc_some cell?_alloc2_some cell?_alloc3_some cell?_alloc4_some frozen?_alloc_some frozen?_alloc2_some frozen?_alloc3_some World.cell?_setCell_far new_ne0 new_ne1 new_ne2 new_ne3 lt2 lt3 lt4 lt5 lt6 lt7 lt8 lt9
attribute [local go_sem] Oper.semAt_some

/-- An operation that defers nothing does in a round what it does elsewhere. -/
theorem op_round {P : Program} {n l : Nat} {o : Oper} {a : Act} {w : World} {K : Act → World → Prop} {Q : Exit → Act → World → Prop} (ho : ∀ c, o.op ≠ .defer c) (h : o.wp P a w K Q) : o.wpIn (Fence.wide.inRound l) n P a w K Q := by
  unfold Oper.wp at h
  unfold Oper.wpIn
  refine ⟨fun _ _ => trivial, ?_⟩
  rw [Fence.inRound_round, Oper.semAt_some l _ _ ho]
  generalize (execOp a.eval o).run P w = r at h
  cases r with
  | ok x w' =>
    cases x with
    | value v => exact h
    | skip => exact h
    | defer d => exact h
    | enter f args => exact ⟨fun h0 => (by cases h0), CallsIn.inRound l (callsIn_wide.2 h)⟩
    | row row args => exact ⟨fun h0 => (by cases h0), fun c cs _ => by obtain ⟨v, w1, r, s⟩ := h c cs; exact ⟨v, w1, r, stepsIn_wide.2 s⟩⟩
    | _ => exact h.elim
  | halt x w' => cases x <;> exact h
theorem any_round {P : Program} {n l : Nat} {md : Region.Mode} {ops : Array Oper} {Q : Exit → Act → World → Prop} (hd : ∀ (i : Nat) (o : Oper), ops[i]? = some o → ∀ c, o.op ≠ Op.defer c) (hq : ¬ LetsOut Q) :
    ∀ (fuel : Nat) (listed : Array Bool) (a : Act) (w : World), wpAny P md ops Q fuel listed a w → wpAnyIn (Fence.wide.inRound l) n P md ops Q fuel listed a w := by
  intro fuel
  induction fuel with
  | zero => exact fun listed a w h => h
  | succ fuel ih =>
    rintro listed a w ⟨h1, h2⟩
    refine ⟨h1, fun i hi => ?_⟩
    have h := h2 i hi
    unfold wpOp at h
    unfold wpOpIn
    cases ho : ops[i]? with
    | none => rw [ho] at h; exact ih _ _ _ h
    | some o =>
      rw [ho] at h
      dsimp only at h ⊢
      split
      · rename_i hw
        rw [if_pos hw] at h
        rcases h with h | ⟨-, h⟩
        · exact Oper.wpIn_mono (fun a w h => ih _ a w h) (op_round (hd i o ho) h)
        · exact absurd h hq
      · rename_i hw
        rw [if_neg hw] at h
        exact ⟨fun _ _ => trivial, ih _ _ _ h⟩
theorem wpIn_name {F : Fence} {n : Nat} {P : Program} {c : Code} {Q : Exit → Act → World → Prop} {a : Act} {W : World} (R : World → Prop) (h0 : R W) (h : ∀ W', R W' → c.wpIn F n P Q a W') : c.wpIn F n P Q a W := h W h0

/-- What trial division keeps: the list so far, what is left, the marks. -/
structure Tq (n₀ : World) (x y : Int) (v : Value) (l : List (Int × Int)) (Ds : List Nat) (wr : World) : Prop where
  c : wr.cell? ⟨n₀.heap.size + 1, 0, none⟩ = some v
  f : wr.frozen? ⟨n₀.heap.size + 1, 0, none⟩ = false
  t : Two wr (n₀.heap.size + 1 + 1) x y
  g : GS wr (n₀.heap.size + 3) v l
  nd : Ds.Nodup
  d : ∀ D ∈ Ds, n₀.heap.size + 3 ≤ D ∧ D < wr.heap.size ∧ v.ownBlock ≠ some D ∧ wr.heap[D]? = some (.deferred (some []))
  b : Below n₀.heap.size n₀ wr
  hs : n₀.heap.size + 3 ≤ wr.heap.size
theorem keep_two {K : Nat → Prop} {V W : World} (h : Keep K V W) {b : Nat} {x y : Int} (hb : K b) (t : Two V b x y) : Two W b x y := ⟨h.cell hb t.c0, h.cell hb t.c1, h.frozen hb t.c0 t.f0, h.frozen hb t.c1 t.f1⟩
section
variable {n₀ wr wx : World} {x y : Int} {l : List (Int × Int)} {v : Value} {Ds : List Nat}
theorem Tq.keep {K : Nat → Prop} (h : Tq n₀ x y v l Ds wr) (hk : Keep K wr wx) (hK : ∀ b, b < n₀.heap.size + 3 ∨ v.ownBlock = some b ∨ b ∈ Ds → K b) : Tq n₀ x y v l Ds wx := by
  refine ⟨hk.cell (hK _ (.inl (by dsimp only; omega))) h.c, hk.frozen (hK _ (.inl (by dsimp only; omega))) h.c h.f, keep_two hk (hK _ (.inl (by omega))) h.t, h.g.kept hk (fun g hg => hK _ (.inr (.inl hg))), h.nd, fun D hD => ?_, h.b.trans (hk.below (fun b hb => hK _ (.inl (by omega))) h.b.size), by have := h.hs; have := hk.size; omega⟩
  obtain ⟨h1, h2, h3, h4⟩ := h.d D hD
  exact ⟨h1, by have := hk.size; omega, h3, hk.heap (hK _ (.inr (.inr hD))) h4⟩
theorem Tq.below (h : Tq n₀ x y v l Ds wr) (hk : Below wr.heap.size wr wx) : Tq n₀ x y v l Ds wx := h.keep (Keep.of_below (fun _ => True) hk) (fun _ _ => trivial)
theorem Tq.more (h : Tq n₀ x y v l Ds wr) {D : Nat} (hD : wr.heap[D]? = some (.deferred (some []))) (h1 : ∀ D' ∈ Ds, D' < D) (h2 : n₀.heap.size + 3 ≤ D) (h3 : v.ownBlock ≠ some D) : Tq n₀ x y v l (D :: Ds) wr := by
  refine ⟨h.c, h.f, h.t, h.g, List.nodup_cons.2 ⟨fun h' => Nat.lt_irrefl _ (h1 D h'), h.nd⟩, fun D' hD' => ?_, h.b, h.hs⟩
  rcases List.mem_cons.1 hD' with rfl | h'
  · exact ⟨h2, (Array.getElem?_eq_some_iff.1 hD).1, h3, hD⟩
  · exact h.d D' h'
/-- Another number left. -/
theorem Tq.left (h : Tq n₀ x y v l Ds wr) (x' y' : Int) : Tq n₀ x' y' v l Ds ((wr.setCell ⟨n₀.heap.size + 1 + 1, 0, none⟩ (.int .i64 x')).setCell ⟨n₀.heap.size + 1 + 1, 1, none⟩ (.int .i64 y')) := by
  have ks : Keep (fun b => b ≠ n₀.heap.size + 1 + 1) wr ((wr.setCell ⟨n₀.heap.size + 1 + 1, 0, none⟩ (.int .i64 x')).setCell ⟨n₀.heap.size + 1 + 1, 1, none⟩ (.int .i64 y')) := ((Keep.refl _ _).setCell (fun h => h rfl) _).setCell (fun h => h rfl) _
  have t := h.t
  refine ⟨ks.cell (by dsimp only; omega) h.c, ks.frozen (by dsimp only; omega) h.c h.f, ⟨keepS (.inr (by omega)) (sameS t.c0), sameS (keepS (.inr (by omega)) t.c1), keepFS (keepFS t.f0), keepFS (keepFS t.f1)⟩, h.g.kept ks (fun g hg => by have := (h.g.lt g hg).1; omega), h.nd, fun D hD => ?_, ?_, by have := h.hs; have := ks.size; omega⟩
  · obtain ⟨h1, h2, h3, h4⟩ := h.d D hD
    exact ⟨h1, by have := ks.size; omega, h3, ks.heap (by omega) h4⟩
  · exact h.b.trans (ks.below (fun b hb => by omega) h.b.size)
/-- Numbers appended, and the slice stored. -/
theorem Tq.app (h : Tq n₀ x y v l Ds wr) {l' : List (Int × Int)} {v' : Value} (hg : GS wx (n₀.heap.size + 3) v' l') (hk : wr.grownBy wx v.ownBlock) (hat : v'.ownBlock = v.ownBlock ∨ v'.ownBlock = some wr.heap.size) :
    Tq n₀ x y v' l' Ds (wx.setCell ⟨n₀.heap.size + 1, 0, none⟩ v') := by
  have k := grown_keep hk
  have c := k.cell (p := ⟨n₀.heap.size + 1, 0, none⟩) (h.g.ne (by dsimp only; omega)) h.c
  have f := k.frozen (p := ⟨n₀.heap.size + 1, 0, none⟩) (h.g.ne (by dsimp only; omega)) h.c h.f
  have hs := k.size
  have ks : Keep (fun b => b ≠ n₀.heap.size + 1) wx (wx.setCell ⟨n₀.heap.size + 1, 0, none⟩ v') := (Keep.refl _ _).setCell (fun h => h rfl) _
  have t := keep_two ks (b := n₀.heap.size + 1 + 1) (by omega) (keep_two k (h.g.ne (by omega)) h.t)
  refine ⟨sameS c, keepFS f, t, hg.kept ks (fun g hg' => by have := (hg.lt g hg').1; omega), h.nd, fun D hD => ?_, ?_, by have := h.hs; have := ks.size; omega⟩
  · obtain ⟨h1, h2, h3, h4⟩ := h.d D hD
    refine ⟨h1, by have := ks.size; omega, fun e => ?_, ks.heap (by omega) (k.heap (fun e => h3 e.symm) h4)⟩
    rcases hat with h' | h'
    · rw [h'] at e; exact h3 e
    · rw [h'] at e; injection e with e; omega
  · exact (h.b.trans (k.below (fun b hb => h.g.ne (by omega)) h.b.size)).trans (ks.below (fun b hb => by omega) (by have := h.b.size; omega))
end
end Go.Proofs.Ytahnkecdningnaa

namespace Go.Proofs.Ytahnkecdningnaa
open Go Go.RowKit Go.Shelf
attribute [local go_sem] World.cell?_alloc_some cell?_alloc2_some cell?_alloc3_some cell?_alloc4_some frozen?_alloc_some frozen?_alloc2_some frozen?_alloc3_some World.cell?_setCell_far new_ne0 new_ne1 new_ne2 new_ne3 lt2 lt3 lt4 lt5 lt6 lt7 lt8 lt9
attribute [local go_sem] Oper.semAt_some

theorem wp_nm {P : Program} {c : Code} {Q : Exit → Act → World → Prop} {a : Act} {W : World} (R : World → Prop) (h0 : R W) (h : ∀ W', R W' → c.wp P Q a W') : c.wp P Q a W := h W h0
/-- Between two norms. -/
def To (n₀ : World) (z0 : Int × Int) (u : Value) (ds : List Deferred) (wr : World) : Prop :=
  ∃ (n : Nat) (x y : Int) (l : List (Int × Int)) (v : Value) (Ds : List Nat), u = .int .i64 (n : Int) ∧ 2 ≤ n ∧ n ≤ 1415 ∧ Tr z0 (x, y) l n 0 ∧ ds = Ds.map mark ∧ Tq n₀ x y v l Ds wr
/-- Between two numbers of one norm. -/
def Tn (n₀ : World) (z0 : Int × Int) (n pre : Nat) (Ds : List Nat) (m : Nat) (Si : Nat → Prop) (wr : World) : Prop :=
  ∃ (x y : Int) (l : List (Int × Int)) (v : Value), (∀ g, v.ownBlock = some g → Si g ∨ g < pre) ∧ Tr z0 (x, y) l n m ∧ Tq n₀ x y v l Ds wr
theorem gs_slice {W : World} {base : Nat} {v : Value} {l : List (Int × Int)} (h : GS W base v l) : ∃ a n c, v = .slice a n c := by
  obtain ⟨a, c, e, -⟩ := h.form; exact ⟨a, _, c, e⟩
theorem tr_len {z0 z : Int × Int} {l : List (Int × Int)} {n : Int} {m : Nat} (h : Tr z0 z l n m) (hz : nG z0 ≤ 2000000) : l.length ≤ 20 := by
  have h0 : nG z0 ≠ 0 := fun e => by
    have := nG_mu z (prodG l)
    rw [h.run.prod, e] at this
    have h1 := h.nz
    have h2 := prodG_nG h.run.pr
    rcases Int.mul_eq_zero.1 this.symm with h' | h'
    · omega
    · exact h2 h'
  exact few_primes (u := z) h.run.pr h.run.prod h0 hz

set_option maxRecDepth 100000 in
set_option maxHeartbeats 16000000 in
theorem iTried (a b : Int) (w : World) (k1 : gok a b = true) (hz1 : 1 ≤ nG (a, b)) :
    Calls Try.prog 68 #[.agg #[.int .i64 a, .int .i64 b]] w fun e w' => ∃ t l v, e = .returned (.tuple #[.int .i64 t, v]) ∧ Facs (a, b) t l ∧ GS w' w.heap.size v l ∧ Below w.heap.size w w' := by
  have hN0 := nG_gok (z := (a, b)) k1
  have htr := Tr.start (z := (a, b)) k1 hz1
  obtain ⟨z0, hz0⟩ : ∃ z0, (a, b) = z0 := ⟨_, rfl⟩
  have htr' : Tr z0 (a, b) [] 2 0 := by rw [← hz0]; exact htr
  rw [hz0] at hN0 ⊢
  clear htr k1 hz1 hz0
  refine (callsIn_wide (n := 9)).1 ?_
  refine callsIn_of_wp_marks Try.func68 rfl trivial ?_ rfl
  simp only [Try.ntmps68, List.size_toArray, List.length_cons, List.length_nil, Nat.reduceAdd, Nat.reduceSub, Array.replicate_succ, Array.replicate_zero, List.push_toArray, List.append_toArray, List.nil_append, List.cons_append]
  refine wpIn_wide.2 ?_
  go_wp2_with fail
  refine wp_nm (fun W => Tq w a b (.slice none 0 0) [] [] W) ⟨by (repeat (first | (with_reducible assumption) | (with_reducible apply sameS) | ((with_reducible apply born); (focus (simp; done)); (focus rfl)) | (with_reducible apply keepA) | (with_reducible apply keepD) | ((with_reducible apply keepS); focus ((repeat (first | rw [World.size_alloc] | rw [World.size_setCell] | rw [World.size_drew])); omega)) | ((with_reducible apply keep); (focus (with_reducible assumption))))), by (repeat (first | (with_reducible assumption) | ((with_reducible apply bornF); (focus (simp; done))) | (with_reducible apply keepFS) | (with_reducible apply keepFD) | ((with_reducible apply keepFA); (focus (repeat (first | (with_reducible assumption) | (with_reducible apply sameS) | ((with_reducible apply born); (focus (simp; done)); (focus rfl)) | (with_reducible apply keepA) | (with_reducible apply keepD) | ((with_reducible apply keepS); focus ((repeat (first | rw [World.size_alloc] | rw [World.size_setCell] | rw [World.size_drew])); omega)) | ((with_reducible apply keep); (focus (with_reducible assumption))))))))), Two.of (by (repeat (first | ((with_reducible apply T2.mk) <;> (with_reducible assumption)) | (with_reducible apply T2.Z) | (with_reducible apply T2.O) | ((with_reducible apply T2.B); (focus (simp; done))) | (with_reducible apply T2.A) | (with_reducible apply T2.D) | ((with_reducible apply T2.S); focus ((repeat (first | rw [World.size_alloc] | rw [World.size_setCell] | rw [World.size_drew])); omega)) | ((with_reducible apply T2.K); (focus (with_reducible assumption)))))), GS.nil _ _, List.nodup_nil, fun D h => (by cases h), by (repeat' (first | (with_reducible exact Below.refl _ _) | (with_reducible refine Below.alloc ?_ ?_ _) | (with_reducible refine Below.drew ?_) | (with_reducible refine Below.setCell ?_ ?_ _) | (with_reducible refine Below.trans ?_ (Below.mono (by assumption) ?_)) | go_size)), by simp⟩ ?_
  intro w1 hq0
  refine wp_loop (fun a' w' => ∃ u6 u7 u8 u9 u10 u11 u12 u13 u14 u15 u16 u17 u18 u19 u20 u21 u22 u23 u24 u25 u26 u27 u28 u29 u30 u31 u32 u33 u34 u35 u36 u37 u38 u39 u40 u41 u42 u43 u44 u45 u46 u47 u48 u49 u50 u51 u52 u53 u54 u55 u56 u57, To w z0 u6 a'.defers w' ∧ a' = { tmps := #[.agg #[.int .i64 a, .int .i64 b], .pointer (some ⟨w.heap.size, 0, none⟩), .int .i64 0, .slice none 0 0, .pointer (some ⟨w.heap.size + 1, 0, none⟩), .pointer (some ⟨w.heap.size + 1 + 1, 0, none⟩), u6, u7, u8, u9, u10, u11, u12, u13, u14, u15, u16, u17, u18, u19, u20, u21, u22, u23, u24, u25, u26, u27, u28, u29, u30, u31, u32, u33, u34, u35, u36, u37, u38, u39, u40, u41, u42, u43, u44, u45, u46, u47, u48, u49, u50, u51, u52, u53, u54, u55, u56, u57], defers := a'.defers }) (fun a' _ => 3000 - (intOf (a'.tmps.getD 6 undef)).toNat) ?_ ?_
  · exact ⟨_, _, _, _, _, _, _, _, _, _, _, _, _, _, _, _, _, _, _, _, _, _, _, _, _, _, _, _, _, _, _, _, _, _, _, _, _, _, _, _, _, _, _, _, _, _, _, _, _, _, _, _, ⟨2, a, b, [], _, [], rfl, by omega, by omega, htr', rfl, hq0⟩, rfl⟩
  · clear hq0 htr'
    rintro a' wr ⟨u6, u7, u8, u9, u10, u11, u12, u13, u14, u15, u16, u17, u18, u19, u20, u21, u22, u23, u24, u25, u26, u27, u28, u29, u30, u31, u32, u33, u34, u35, u36, u37, u38, u39, u40, u41, u42, u43, u44, u45, u46, u47, u48, u49, u50, u51, u52, u53, u54, u55, u56, u57, ⟨n, x, y, l, v, Ds, rfl, hn2, hn1415, ht, hds, hq⟩, ha⟩
    rw [hds] at ha
    subst ha
    clear hds
    dsimp only
    have hsr := hq.hs
    have hbs := hq.b.size
    have hlen := tr_len ht hN0
    have hnn : ((n * n : Nat) : Int) = (n : Int) * n := by simp
    have hn3 : n * n ≤ 2002225 := Nat.mul_le_mul hn1415 hn1415
    have kxy : gok x y = true := ht.ok
    have hN1 := ht.nz
    have hN2 := nG_gok (z := (x, y)) kxy
    obtain ⟨N, hN⟩ : ∃ N, x * x + y * y = N := ⟨_, rfl⟩
    have hNG : nG (x, y) = N := hN
    rw [hNG] at hN1 hN2
    obtain ⟨t0, t1, t2, t3⟩ := hq.t
    by_cases hle : (n : Int) * n ≤ N
    · have hd1 : decide ((n : Int) * n ≤ N) = true := decide_eq_true hle
      have hn1414 : n ≤ 1414 := by
        rcases Nat.lt_or_ge 1414 n with h | h
        · have := Nat.mul_le_mul h h; omega
        · exact h
      have hn0 : ((n : Int) == 0) = false := by simp; omega
      have hx1 : 0 ≤ N % n := Int.emod_nonneg N (show (n : Int) ≠ 0 by omega)
      have hx2 : N % n < n := Int.emod_lt_of_pos N (show 0 < (n : Int) by omega)
      go_wp2_with fail
      (refine (igNorm_v _ kxy hN).mono ?_; rintro e w1 ⟨rfl, hb1⟩; have hz1 := hb1.size; (repeat (first | rw [World.size_alloc] at hz1 | rw [World.size_setCell] at hz1 | rw [World.size_drew] at hz1)); have pp := T2.K hb1 (b := w.heap.size + 1 + 1) (x := _) (y := _) (by (repeat (first | ((with_reducible apply T2.mk) <;> (with_reducible assumption)) | (with_reducible apply T2.Z) | (with_reducible apply T2.O) | ((with_reducible apply T2.B); (focus (simp; done))) | (with_reducible apply T2.A) | (with_reducible apply T2.D) | ((with_reducible apply T2.S); focus ((repeat (first | rw [World.size_alloc] | rw [World.size_setCell] | rw [World.size_drew])); omega)) | ((with_reducible apply T2.K); (focus (with_reducible assumption)))))); obtain ⟨kk1, kk2, fkk1, fkk2⟩ := pp)
      have hq1 := hq.below hb1
      clear t0 t1 t2 t3
      by_cases hm : N % n = 0
      · have hm1 : (N % n == 0) = true := by simpa using hm
        have hm2 : (N % n != 0) = false := by simpa using hm
        go_wp2_with fail
        (refine (igNorm_v _ kxy hN).mono ?_; rintro e w4 ⟨rfl, hb4⟩; have hz4 := hb4.size; (repeat (first | rw [World.size_alloc] at hz4 | rw [World.size_setCell] at hz4 | rw [World.size_drew] at hz4)); have pp := T2.K hb4 (b := w.heap.size + 1 + 1) (x := _) (y := _) (by (repeat (first | ((with_reducible apply T2.mk) <;> (with_reducible assumption)) | (with_reducible apply T2.Z) | (with_reducible apply T2.O) | ((with_reducible apply T2.B); (focus (simp; done))) | (with_reducible apply T2.A) | (with_reducible apply T2.D) | ((with_reducible apply T2.S); focus ((repeat (first | rw [World.size_alloc] | rw [World.size_setCell] | rw [World.size_drew])); omega)) | ((with_reducible apply T2.K); (focus (with_reducible assumption)))))); obtain ⟨kk3, kk4, fkk3, fkk4⟩ := pp; (try clear kk1 kk2 fkk1 fkk2))
        have hq3 := hq1.below hb4
        go_wp2_with fail
        (refine (iOnCircle n _).mono ?_; rintro e w2 ⟨Bn, rfl, cB, hB, hb2⟩; have hz2 := hb2.size; (repeat (first | rw [World.size_alloc] at hz2 | rw [World.size_setCell] at hz2 | rw [World.size_drew] at hz2)); (try clear kk3 kk4 fkk3 fkk4))
        have hq2 := hq3.below hb2
        have hvp : ∀ g, v.ownBlock = some g → g < w4.heap.size := fun g h => (hq3.g.lt g h).2
        have hs32 : w.heap.size + 3 ≤ w4.heap.size := hq3.hs
        clear hq hq1 hq3
        have hBn : Bn < w2.heap.size := World.block_lt_of_cell? _ _ cB
        go_wp2_with fail
        refine (wpIn_wide (n := 9)).1 ?_
        have G := onCircle_gives n Bn w2 (by omega) cB
        refine wp_rangeG (xs := (circ n).map gRow) rfl (enters_of Try.func102 (by kernel_rfl) rfl) G (fun b h => h ▸ hBn) (Keep.refl _ _) (fun x hx => by obtain ⟨q, -, rfl⟩ := List.mem_map.1 hx; rfl)
          (Tn w z0 n w4.heap.size Ds) (fun _ _ _ => False) ?hI (fun _ _ _ _ h _ => h) ?h0 ?round ?done (fun _ _ _ _ _ h => h.elim)
        case hI =>
          rintro m Si A B ⟨x, y, l, v, hv, ht, hq⟩ hAB
          exact ⟨x, y, l, v, hv, ht, hq.keep hAB (fun b h => by
            rcases h with h | h | h
            · exact .inl (by have := hq2.hs; omega)
            · rcases hv b h with h | h
              · exact .inr h
              · exact .inl (by have := hb2.size; omega)
            · exact .inl (hq2.d b h).2.1)⟩
        case h0 => exact ⟨x, y, l, v, fun g h => .inr (hvp g h), ht, hq2⟩
        case round =>
          clear ht hN hNG hN1 hN2 hle hd1 hm hm1 hm2 kxy hx1 hx2 hlen hvp
          rintro l' m Si row Wr hr ⟨x, y, T, v, hv, ht, hq⟩ hs hSi
          obtain ⟨p, q, rfl, hat, -⟩ := row_at hr
          have hlenT := tr_len ht hN0
          have hmc : (p, q) ∈ circ n := List.mem_of_getElem? hat
          obtain ⟨hfq, hpq⟩ := (mem_circ (by omega) p q).1 hmc
          have kpq : gok p q = true := gok_small (z := (p, q)) (by unfold nG; dsimp only; omega)
          have kxy : gok x y = true := ht.ok
          have hN1 := ht.nz
          rw [gRow]
          gi_wp2
          refine ⟨(Keep.refl _ _).alloc _, ?_⟩
          intro W2 hs2 hk2
          rw [World.size_alloc] at hs2
          have tV := hk2.t2 (b := Wr.heap.size) (x := .int .i64 p) (y := .int .i64 q) (.inr (by omega)) (by (repeat (first | ((with_reducible apply T2.mk) <;> (with_reducible assumption)) | (with_reducible apply T2.Z) | (with_reducible apply T2.O) | ((with_reducible apply T2.B); (focus (simp; done))) | (with_reducible apply T2.A) | (with_reducible apply T2.D) | ((with_reducible apply T2.S); focus ((repeat (first | rw [World.size_alloc] | rw [World.size_setCell] | rw [World.size_drew])); omega)) | ((with_reducible apply T2.K); (focus (with_reducible assumption))))))
          have hqA := (hq.below (wx := Wr.alloc (.cells #[.int .i64 p, .int .i64 q] 24)) (by (repeat' (first | (with_reducible exact Below.refl _ _) | (with_reducible refine Below.alloc ?_ ?_ _) | (with_reducible refine Below.drew ?_) | (with_reducible refine Below.setCell ?_ ?_ _) | (with_reducible refine Below.trans ?_ (Below.mono (by assumption) ?_)) | go_size)))).keep hk2 (fun b h => by
            rcases h with h | h | h
            · exact .inl (by have := hq2.hs; omega)
            · rcases hv b h with h | h
              · exact .inr (hSi b h).1
              · exact .inl (by have := hb2.size; omega)
            · exact .inl (hq2.d b h).2.1)
          have HS := Lib.hid hs2
          clear hq hs2 hk2
          obtain ⟨v0, v1, -, -⟩ := tV
          obtain ⟨z0', z1', z2', z3'⟩ := hqA.t
          gi_wp2_with fail
          refine ⟨trivial, ?_⟩
          refine (CallsIn.inRound l' (callsIn_wide.2 (igOut x y p q _ kxy kpq (by omega) hN1))).mono ?_
          rintro e W3 ⟨k, rx, ry, rfl, hE, hnd, kr, hk20, hb3⟩
          have hz3 := hb3.size
          have d0 := keep hb3 v0
          have d1 := keep hb3 v1
          have hqB := hqA.below hb3
          clear v0 v1 z0' z1' z2' z3' hqA
          have ht' := ht.next (by omega) (by omega) hat kr hE hnd
          have hlen : T.length + (List.replicate k (p, q)).length ≤ 8000000 := by rw [List.length_replicate]; omega
          clear ht hE hnd
          obtain ⟨e0, e1, e2, e3⟩ := hqB.t
          have hlt3 : w.heap.size + 1 + 1 < W3.heap.size := by have := hqB.hs; omega
          gi_wp2_with fail
          refine wpIn_name (fun W => Tq w rx ry v T Ds W ∧ C2 W Wr.heap.size (.int .i64 p) (.int .i64 q) ∧ Keep (fun b => b ≠ w.heap.size + 1 + 1) W2 W ∧ W2.heap.size ≤ W.heap.size) ⟨?_, ?_, ?_, ?_⟩ ?_
          · exact (Tq.left hqB rx ry).below (by (repeat' (first | (with_reducible exact Below.refl _ _) | (with_reducible refine Below.alloc ?_ ?_ _) | (with_reducible refine Below.drew ?_) | (with_reducible refine Below.setCell ?_ ?_ _) | (with_reducible refine Below.trans ?_ (Below.mono (by assumption) ?_)) | go_size)))
          · (repeat (first | ((with_reducible apply C2.mk) <;> (with_reducible assumption)) | (with_reducible apply C2.Z) | (with_reducible apply C2.O) | ((with_reducible apply C2.B); (focus (simp; done))) | (with_reducible apply C2.A) | (with_reducible apply C2.D) | ((with_reducible apply C2.S); focus ((repeat (first | rw [World.size_alloc] | rw [World.size_setCell] | rw [World.size_drew])); omega)) | ((with_reducible apply C2.K); (focus (with_reducible assumption)))))
          · exact (((Keep.of_below _ hb3).setCell (fun h => h rfl) _).setCell (fun h => h rfl) _).alloc _
          · simp; omega
          rintro W5 ⟨hq5, ⟨g0, g1⟩, hk5, hs5⟩
          clear hqB e0 e1 e2 e3 d0 d1 hz3 hlt3
          have cX := hq5.c
          have fX := hq5.f
          have FIN : ∀ (w3 : World) (v3 : Value), GS w3 ((W5.alloc (.cells #[.int .i64 p, .int .i64 q] 24)).drew).heap.size v3 (List.replicate k (p, q)) → Below ((W5.alloc (.cells #[.int .i64 p, .int .i64 q] 24)).drew).heap.size ((W5.alloc (.cells #[.int .i64 p, .int .i64 q] 24)).drew) w3 →
              ∀ (v8 : Value) (w8 : World), GS w8 (w.heap.size + 3) v8 (T ++ List.replicate k (p, q)) → w3.grownBy w8 v.ownBlock → (v8.ownBlock = v.ownBlock ∨ v8.ownBlock = some w3.heap.size) →
              ∃ S' : Nat → Prop, (∀ b, S' b → (Si b ∨ Wr.heap.size ≤ b) ∧ b < (w8.setCell ⟨w.heap.size + 1, 0, none⟩ v8).heap.size) ∧ Keep (fun b => ¬ Si b ∧ (b = Bn ∨ w2.heap.size ≤ b) ∧ b < Wr.heap.size) W2 (w8.setCell ⟨w.heap.size + 1, 0, none⟩ v8) ∧ Tn w z0 n w4.heap.size Ds (m + 1) S' (w8.setCell ⟨w.heap.size + 1, 0, none⟩ v8) := by
            intro w3 v3 hg3 hb3 v8 w8 hg8 hgr8 hat8
            have hA : Below W5.heap.size W5 ((W5.alloc (.cells #[.int .i64 p, .int .i64 q] 24)).drew) := by (repeat' (first | (with_reducible exact Below.refl _ _) | (with_reducible refine Below.alloc ?_ ?_ _) | (with_reducible refine Below.drew ?_) | (with_reducible refine Below.setCell ?_ ?_ _) | (with_reducible refine Below.trans ?_ (Below.mono (by assumption) ?_)) | go_size))
            have hq3 := (hq5.below hA).below hb3
            have hq8 := hq3.app hg8 hgr8 hat8
            have hs3 := hb3.size
            have e5 : ((W5.alloc (.cells #[.int .i64 p, .int .i64 q] 24)).drew).heap.size = W5.heap.size + 1 := by simp
            have hs8 := (grown_keep hgr8).size
            have hs2 := HS.out
            have hsz2 := hb2.size
            refine ⟨fun b => v8.ownBlock = some b ∧ w2.heap.size ≤ b, ?_, ?_, rx, ry, T ++ List.replicate k (p, q), v8, fun g h => ?_, ht', hq8⟩
            · rintro b ⟨h, h'⟩
              refine ⟨?_, by have := (hg8.lt b h).2; simpa using this⟩
              rcases hat8 with h1 | h1
              · rw [h1] at h
                rcases hv b h with h2 | h2
                · exact .inl h2
                · omega
              · rw [h1] at h
                injection h with h
                exact .inr (by omega)
            · refine Keep.setCell ((((hk5.mono ?_).trans (Keep.of_below _ hA)).trans (Keep.of_below _ hb3)).trans ((grown_keep hgr8).mono ?_)) ?_ _
              · rintro b ⟨g1, g2, g3⟩ - e
                have := hq2.hs
                rcases g2 with g2 | g2
                · omega
                · omega
              · rintro b ⟨g1, g2, g3⟩ - e
                rcases hv b e.symm with h | h
                · exact g1 h
                · rcases g2 with g2 | g2
                  · omega
                  · omega
              · rintro ⟨-, g2, -⟩
                dsimp only at g2
                have := hq2.hs
                rcases g2 with g2 | g2
                · omega
                · omega
            · rcases Nat.lt_or_ge g w2.heap.size with h' | h'
              · rcases hat8 with h1 | h1
                · rw [h1] at h
                  rcases hv g h with h2 | h2
                  · have := (hSi g h2).1; omega
                  · exact .inr h2
                · rw [h1] at h
                  injection h with h
                  omega
              · exact .inl ⟨h, h'⟩
          refine wpIn_region_any (by kernel_rfl) ?_
          (try (change wpAnyIn _ _ _ _ _ _ _ _ _ (World.drew _)))
          refine any_round (by intro i o h c hc; rcases i with _ | _ | _ | _ | _ | _ | _ | i <;> simp at h <;> subst h <;> cases hc) (by rintro ⟨a, W, h⟩; obtain ⟨_, _, _, h⟩ := h; exact h) _ _ _ _ ?_
          refine wpAny_take (i := 3) (v := .int .i64 (k : Int)) rfl (by kernel_rfl) (by kernel_rfl) (by kernel_rfl) (fun _ _ _ h => h) (Or.inl ⟨by rfl, by intro w; go_simp⟩) ?_
          refine wpAny_ready (rs := [0, 1]) (by kernel_rfl) (by simp) ?_
          refine AllReady.cons rfl (fun K hK => ?_) ?_
          · go_simp
            refine hK _ _ ?_
            clear hK K
            refine wpAny_ready (rs := [1]) (by kernel_rfl) (by simp) ?_
            refine AllReady.cons rfl (fun K hK => ?_) ?_
            · go_simp
              refine hK _ _ ?_
              clear hK K
              refine wpAny_ready (rs := [2]) (by kernel_rfl) (by simp) ?_
              refine AllReady.cons rfl (fun K hK => ?_) ?_
              · go_simp
                refine hK _ _ ?_
                clear hK K
                refine wpAny_ready (rs := [4]) (by kernel_rfl) (by simp) ?_
                refine AllReady.cons rfl (fun K hK => ?_) ?_
                · go_simp
                  refine (iRepeat p q k hk20 _ _ (by (repeat (first | (with_reducible assumption) | (with_reducible apply sameS) | ((with_reducible apply born); (focus (simp; done)); (focus rfl)) | (with_reducible apply keepA) | (with_reducible apply keepD) | ((with_reducible apply keepS); focus ((repeat (first | rw [World.size_alloc] | rw [World.size_setCell] | rw [World.size_drew])); omega)) | ((with_reducible apply keep); (focus (with_reducible assumption)))))) (by (repeat (first | (with_reducible assumption) | (with_reducible apply sameS) | ((with_reducible apply born); (focus (simp; done)); (focus rfl)) | (with_reducible apply keepA) | (with_reducible apply keepD) | ((with_reducible apply keepS); focus ((repeat (first | rw [World.size_alloc] | rw [World.size_setCell] | rw [World.size_drew])); omega)) | ((with_reducible apply keep); (focus (with_reducible assumption))))))).mono ?_
                  rintro e w3 ⟨v3, rfl, hg3, hb3⟩
                  have cX3 := keep hb3 (a := ⟨w.heap.size + 1, 0, none⟩) (v := v) (by (repeat (first | (with_reducible assumption) | (with_reducible apply sameS) | ((with_reducible apply born); (focus (simp; done)); (focus rfl)) | (with_reducible apply keepA) | (with_reducible apply keepD) | ((with_reducible apply keepS); focus ((repeat (first | rw [World.size_alloc] | rw [World.size_setCell] | rw [World.size_drew])); omega)) | ((with_reducible apply keep); (focus (with_reducible assumption))))))
                  refine hK _ _ ?_
                  clear hK K
                  have hg3' : GS w3 (w.heap.size + 3) v T := (GS.drew (GS.alloc hq5.g _)).below hb3
                  have hs3 := hb3.size
                  refine wpAny_ready (rs := [5]) (by kernel_rfl) (by simp) ?_
                  refine AllReady.cons rfl (fun K hK => ?_) ?_
                  · refine appLStep _ rfl _ _ rfl (w.heap.size + 3) v T (List.replicate k (p, q)) rfl hg3' w3.heap.size v3 rfl hg3.lo hlen (by have := hq5.hs; simp at hs3; omega) ?_
                    intro v8 w8 hg8 hgr8 hat8
                    obtain ⟨a8, n8, cap8, rfl⟩ := gs_slice hg8
                    have c8 := (grown_keep hgr8).cell (p := ⟨w.heap.size + 1, 0, none⟩) (v := v) (hq5.g.ne (by dsimp only; omega)) cX3
                    have f8 := (grown_keep hgr8).frozen (p := ⟨w.heap.size + 1, 0, none⟩) (v := v) (hq5.g.ne (by dsimp only; omega)) cX3 (keepF hb3 (a := ⟨w.heap.size + 1, 0, none⟩) (v := v) (by (repeat (first | (with_reducible assumption) | (with_reducible apply sameS) | ((with_reducible apply born); (focus (simp; done)); (focus rfl)) | (with_reducible apply keepA) | (with_reducible apply keepD) | ((with_reducible apply keepS); focus ((repeat (first | rw [World.size_alloc] | rw [World.size_setCell] | rw [World.size_drew])); omega)) | ((with_reducible apply keep); (focus (with_reducible assumption)))))) (by (repeat (first | (with_reducible assumption) | ((with_reducible apply bornF); (focus (simp; done))) | (with_reducible apply keepFS) | (with_reducible apply keepFD) | ((with_reducible apply keepFA); (focus (repeat (first | (with_reducible assumption) | (with_reducible apply sameS) | ((with_reducible apply born); (focus (simp; done)); (focus rfl)) | (with_reducible apply keepA) | (with_reducible apply keepD) | ((with_reducible apply keepS); focus ((repeat (first | rw [World.size_alloc] | rw [World.size_setCell] | rw [World.size_drew])); omega)) | ((with_reducible apply keep); (focus (with_reducible assumption)))))))))))
                    refine hK _ _ ?_
                    clear hK K
                    refine wpAny_ready (rs := [6]) (by kernel_rfl) (by simp) ?_
                    refine AllReady.cons rfl (fun K hK => ?_) ?_
                    · go_simp
                      refine hK _ _ ?_
                      clear hK K
                      refine wpAny_done (by kernel_rfl) ?_ _
                      gi_wp2
                      exact FIN w3 v3 hg3 hb3 _ w8 hg8 hgr8 hat8
                    exact AllReady.nil
                  exact AllReady.nil
                exact AllReady.nil
              exact AllReady.nil
            exact AllReady.nil
          refine AllReady.cons rfl (fun K hK => ?_) ?_
          · go_simp
            refine hK _ _ ?_
            clear hK K
            refine wpAny_ready (rs := [0, 2]) (by kernel_rfl) (by simp) ?_
            refine AllReady.cons rfl (fun K hK => ?_) ?_
            · go_simp
              refine hK _ _ ?_
              clear hK K
              refine wpAny_ready (rs := [2]) (by kernel_rfl) (by simp) ?_
              refine AllReady.cons rfl (fun K hK => ?_) ?_
              · go_simp
                refine hK _ _ ?_
                clear hK K
                refine wpAny_ready (rs := [4]) (by kernel_rfl) (by simp) ?_
                refine AllReady.cons rfl (fun K hK => ?_) ?_
                · go_simp
                  refine (iRepeat p q k hk20 _ _ (by (repeat (first | (with_reducible assumption) | (with_reducible apply sameS) | ((with_reducible apply born); (focus (simp; done)); (focus rfl)) | (with_reducible apply keepA) | (with_reducible apply keepD) | ((with_reducible apply keepS); focus ((repeat (first | rw [World.size_alloc] | rw [World.size_setCell] | rw [World.size_drew])); omega)) | ((with_reducible apply keep); (focus (with_reducible assumption)))))) (by (repeat (first | (with_reducible assumption) | (with_reducible apply sameS) | ((with_reducible apply born); (focus (simp; done)); (focus rfl)) | (with_reducible apply keepA) | (with_reducible apply keepD) | ((with_reducible apply keepS); focus ((repeat (first | rw [World.size_alloc] | rw [World.size_setCell] | rw [World.size_drew])); omega)) | ((with_reducible apply keep); (focus (with_reducible assumption))))))).mono ?_
                  rintro e w3 ⟨v3, rfl, hg3, hb3⟩
                  have cX3 := keep hb3 (a := ⟨w.heap.size + 1, 0, none⟩) (v := v) (by (repeat (first | (with_reducible assumption) | (with_reducible apply sameS) | ((with_reducible apply born); (focus (simp; done)); (focus rfl)) | (with_reducible apply keepA) | (with_reducible apply keepD) | ((with_reducible apply keepS); focus ((repeat (first | rw [World.size_alloc] | rw [World.size_setCell] | rw [World.size_drew])); omega)) | ((with_reducible apply keep); (focus (with_reducible assumption))))))
                  refine hK _ _ ?_
                  clear hK K
                  have hg3' : GS w3 (w.heap.size + 3) v T := (GS.drew (GS.alloc hq5.g _)).below hb3
                  have hs3 := hb3.size
                  refine wpAny_ready (rs := [5]) (by kernel_rfl) (by simp) ?_
                  refine AllReady.cons rfl (fun K hK => ?_) ?_
                  · refine appLStep _ rfl _ _ rfl (w.heap.size + 3) v T (List.replicate k (p, q)) rfl hg3' w3.heap.size v3 rfl hg3.lo hlen (by have := hq5.hs; simp at hs3; omega) ?_
                    intro v8 w8 hg8 hgr8 hat8
                    obtain ⟨a8, n8, cap8, rfl⟩ := gs_slice hg8
                    have c8 := (grown_keep hgr8).cell (p := ⟨w.heap.size + 1, 0, none⟩) (v := v) (hq5.g.ne (by dsimp only; omega)) cX3
                    have f8 := (grown_keep hgr8).frozen (p := ⟨w.heap.size + 1, 0, none⟩) (v := v) (hq5.g.ne (by dsimp only; omega)) cX3 (keepF hb3 (a := ⟨w.heap.size + 1, 0, none⟩) (v := v) (by (repeat (first | (with_reducible assumption) | (with_reducible apply sameS) | ((with_reducible apply born); (focus (simp; done)); (focus rfl)) | (with_reducible apply keepA) | (with_reducible apply keepD) | ((with_reducible apply keepS); focus ((repeat (first | rw [World.size_alloc] | rw [World.size_setCell] | rw [World.size_drew])); omega)) | ((with_reducible apply keep); (focus (with_reducible assumption)))))) (by (repeat (first | (with_reducible assumption) | ((with_reducible apply bornF); (focus (simp; done))) | (with_reducible apply keepFS) | (with_reducible apply keepFD) | ((with_reducible apply keepFA); (focus (repeat (first | (with_reducible assumption) | (with_reducible apply sameS) | ((with_reducible apply born); (focus (simp; done)); (focus rfl)) | (with_reducible apply keepA) | (with_reducible apply keepD) | ((with_reducible apply keepS); focus ((repeat (first | rw [World.size_alloc] | rw [World.size_setCell] | rw [World.size_drew])); omega)) | ((with_reducible apply keep); (focus (with_reducible assumption)))))))))))
                    refine hK _ _ ?_
                    clear hK K
                    refine wpAny_ready (rs := [6]) (by kernel_rfl) (by simp) ?_
                    refine AllReady.cons rfl (fun K hK => ?_) ?_
                    · go_simp
                      refine hK _ _ ?_
                      clear hK K
                      refine wpAny_done (by kernel_rfl) ?_ _
                      gi_wp2
                      exact FIN w3 v3 hg3 hb3 _ w8 hg8 hgr8 hat8
                    exact AllReady.nil
                  exact AllReady.nil
                exact AllReady.nil
              exact AllReady.nil
            refine AllReady.cons rfl (fun K hK => ?_) ?_
            · go_simp
              refine hK _ _ ?_
              clear hK K
              refine wpAny_ready (rs := [0, 4]) (by kernel_rfl) (by simp) ?_
              refine AllReady.cons rfl (fun K hK => ?_) ?_
              · go_simp
                refine hK _ _ ?_
                clear hK K
                refine wpAny_ready (rs := [4]) (by kernel_rfl) (by simp) ?_
                refine AllReady.cons rfl (fun K hK => ?_) ?_
                · go_simp
                  refine (iRepeat p q k hk20 _ _ (by (repeat (first | (with_reducible assumption) | (with_reducible apply sameS) | ((with_reducible apply born); (focus (simp; done)); (focus rfl)) | (with_reducible apply keepA) | (with_reducible apply keepD) | ((with_reducible apply keepS); focus ((repeat (first | rw [World.size_alloc] | rw [World.size_setCell] | rw [World.size_drew])); omega)) | ((with_reducible apply keep); (focus (with_reducible assumption)))))) (by (repeat (first | (with_reducible assumption) | (with_reducible apply sameS) | ((with_reducible apply born); (focus (simp; done)); (focus rfl)) | (with_reducible apply keepA) | (with_reducible apply keepD) | ((with_reducible apply keepS); focus ((repeat (first | rw [World.size_alloc] | rw [World.size_setCell] | rw [World.size_drew])); omega)) | ((with_reducible apply keep); (focus (with_reducible assumption))))))).mono ?_
                  rintro e w3 ⟨v3, rfl, hg3, hb3⟩
                  have cX3 := keep hb3 (a := ⟨w.heap.size + 1, 0, none⟩) (v := v) (by (repeat (first | (with_reducible assumption) | (with_reducible apply sameS) | ((with_reducible apply born); (focus (simp; done)); (focus rfl)) | (with_reducible apply keepA) | (with_reducible apply keepD) | ((with_reducible apply keepS); focus ((repeat (first | rw [World.size_alloc] | rw [World.size_setCell] | rw [World.size_drew])); omega)) | ((with_reducible apply keep); (focus (with_reducible assumption))))))
                  refine hK _ _ ?_
                  clear hK K
                  have hg3' : GS w3 (w.heap.size + 3) v T := (GS.drew (GS.alloc hq5.g _)).below hb3
                  have hs3 := hb3.size
                  refine wpAny_ready (rs := [5]) (by kernel_rfl) (by simp) ?_
                  refine AllReady.cons rfl (fun K hK => ?_) ?_
                  · refine appLStep _ rfl _ _ rfl (w.heap.size + 3) v T (List.replicate k (p, q)) rfl hg3' w3.heap.size v3 rfl hg3.lo hlen (by have := hq5.hs; simp at hs3; omega) ?_
                    intro v8 w8 hg8 hgr8 hat8
                    obtain ⟨a8, n8, cap8, rfl⟩ := gs_slice hg8
                    have c8 := (grown_keep hgr8).cell (p := ⟨w.heap.size + 1, 0, none⟩) (v := v) (hq5.g.ne (by dsimp only; omega)) cX3
                    have f8 := (grown_keep hgr8).frozen (p := ⟨w.heap.size + 1, 0, none⟩) (v := v) (hq5.g.ne (by dsimp only; omega)) cX3 (keepF hb3 (a := ⟨w.heap.size + 1, 0, none⟩) (v := v) (by (repeat (first | (with_reducible assumption) | (with_reducible apply sameS) | ((with_reducible apply born); (focus (simp; done)); (focus rfl)) | (with_reducible apply keepA) | (with_reducible apply keepD) | ((with_reducible apply keepS); focus ((repeat (first | rw [World.size_alloc] | rw [World.size_setCell] | rw [World.size_drew])); omega)) | ((with_reducible apply keep); (focus (with_reducible assumption)))))) (by (repeat (first | (with_reducible assumption) | ((with_reducible apply bornF); (focus (simp; done))) | (with_reducible apply keepFS) | (with_reducible apply keepFD) | ((with_reducible apply keepFA); (focus (repeat (first | (with_reducible assumption) | (with_reducible apply sameS) | ((with_reducible apply born); (focus (simp; done)); (focus rfl)) | (with_reducible apply keepA) | (with_reducible apply keepD) | ((with_reducible apply keepS); focus ((repeat (first | rw [World.size_alloc] | rw [World.size_setCell] | rw [World.size_drew])); omega)) | ((with_reducible apply keep); (focus (with_reducible assumption)))))))))))
                    refine hK _ _ ?_
                    clear hK K
                    refine wpAny_ready (rs := [6]) (by kernel_rfl) (by simp) ?_
                    refine AllReady.cons rfl (fun K hK => ?_) ?_
                    · go_simp
                      refine hK _ _ ?_
                      clear hK K
                      refine wpAny_done (by kernel_rfl) ?_ _
                      gi_wp2
                      exact FIN w3 v3 hg3 hb3 _ w8 hg8 hgr8 hat8
                    exact AllReady.nil
                  exact AllReady.nil
                exact AllReady.nil
              refine AllReady.cons rfl (fun K hK => ?_) ?_
              · go_simp
                refine (iRepeat p q k hk20 _ _ (by (repeat (first | (with_reducible assumption) | (with_reducible apply sameS) | ((with_reducible apply born); (focus (simp; done)); (focus rfl)) | (with_reducible apply keepA) | (with_reducible apply keepD) | ((with_reducible apply keepS); focus ((repeat (first | rw [World.size_alloc] | rw [World.size_setCell] | rw [World.size_drew])); omega)) | ((with_reducible apply keep); (focus (with_reducible assumption)))))) (by (repeat (first | (with_reducible assumption) | (with_reducible apply sameS) | ((with_reducible apply born); (focus (simp; done)); (focus rfl)) | (with_reducible apply keepA) | (with_reducible apply keepD) | ((with_reducible apply keepS); focus ((repeat (first | rw [World.size_alloc] | rw [World.size_setCell] | rw [World.size_drew])); omega)) | ((with_reducible apply keep); (focus (with_reducible assumption))))))).mono ?_
                rintro e w3 ⟨v3, rfl, hg3, hb3⟩
                have cX3 := keep hb3 (a := ⟨w.heap.size + 1, 0, none⟩) (v := v) (by (repeat (first | (with_reducible assumption) | (with_reducible apply sameS) | ((with_reducible apply born); (focus (simp; done)); (focus rfl)) | (with_reducible apply keepA) | (with_reducible apply keepD) | ((with_reducible apply keepS); focus ((repeat (first | rw [World.size_alloc] | rw [World.size_setCell] | rw [World.size_drew])); omega)) | ((with_reducible apply keep); (focus (with_reducible assumption))))))
                refine hK _ _ ?_
                clear hK K
                have hg3' : GS w3 (w.heap.size + 3) v T := (GS.drew (GS.alloc hq5.g _)).below hb3
                have hs3 := hb3.size
                refine wpAny_ready (rs := [0]) (by kernel_rfl) (by simp) ?_
                refine AllReady.cons rfl (fun K hK => ?_) ?_
                · go_simp
                  refine hK _ _ ?_
                  clear hK K
                  refine wpAny_ready (rs := [5]) (by kernel_rfl) (by simp) ?_
                  refine AllReady.cons rfl (fun K hK => ?_) ?_
                  · refine appLStep _ rfl _ _ rfl (w.heap.size + 3) v T (List.replicate k (p, q)) rfl hg3' w3.heap.size v3 rfl hg3.lo hlen (by have := hq5.hs; simp at hs3; omega) ?_
                    intro v8 w8 hg8 hgr8 hat8
                    obtain ⟨a8, n8, cap8, rfl⟩ := gs_slice hg8
                    have c8 := (grown_keep hgr8).cell (p := ⟨w.heap.size + 1, 0, none⟩) (v := v) (hq5.g.ne (by dsimp only; omega)) cX3
                    have f8 := (grown_keep hgr8).frozen (p := ⟨w.heap.size + 1, 0, none⟩) (v := v) (hq5.g.ne (by dsimp only; omega)) cX3 (keepF hb3 (a := ⟨w.heap.size + 1, 0, none⟩) (v := v) (by (repeat (first | (with_reducible assumption) | (with_reducible apply sameS) | ((with_reducible apply born); (focus (simp; done)); (focus rfl)) | (with_reducible apply keepA) | (with_reducible apply keepD) | ((with_reducible apply keepS); focus ((repeat (first | rw [World.size_alloc] | rw [World.size_setCell] | rw [World.size_drew])); omega)) | ((with_reducible apply keep); (focus (with_reducible assumption)))))) (by (repeat (first | (with_reducible assumption) | ((with_reducible apply bornF); (focus (simp; done))) | (with_reducible apply keepFS) | (with_reducible apply keepFD) | ((with_reducible apply keepFA); (focus (repeat (first | (with_reducible assumption) | (with_reducible apply sameS) | ((with_reducible apply born); (focus (simp; done)); (focus rfl)) | (with_reducible apply keepA) | (with_reducible apply keepD) | ((with_reducible apply keepS); focus ((repeat (first | rw [World.size_alloc] | rw [World.size_setCell] | rw [World.size_drew])); omega)) | ((with_reducible apply keep); (focus (with_reducible assumption)))))))))))
                    refine hK _ _ ?_
                    clear hK K
                    refine wpAny_ready (rs := [6]) (by kernel_rfl) (by simp) ?_
                    refine AllReady.cons rfl (fun K hK => ?_) ?_
                    · go_simp
                      refine hK _ _ ?_
                      clear hK K
                      refine wpAny_done (by kernel_rfl) ?_ _
                      gi_wp2
                      exact FIN w3 v3 hg3 hb3 _ w8 hg8 hgr8 hat8
                    exact AllReady.nil
                  exact AllReady.nil
                exact AllReady.nil
              exact AllReady.nil
            exact AllReady.nil
          exact AllReady.nil
        case done =>
          rintro D Si Wd hD ⟨x, y, l, v, hv, ht, hq⟩ hSD hK
          rw [List.length_map] at ht
          have ht' := ht.up (by omega) (by omega) (Nat.le_refl _)
          have hq' := hq.more hK (fun D' h => by have := (hq2.d D' h).2.1; omega) (by have := hq2.hs; omega) (fun h => by
            rcases hv D h with h3 | h3
            · have := hSD D h3; omega
            · have := hb2.size; omega)
          clear hK
          gi_wp2
          go_wp2_with fail
          exact ⟨⟨n + 1, x, y, l, v, D :: Ds, by simp, by omega, by omega, by simpa using ht', rfl, hq'⟩, by simp [intOf]; omega⟩
      · have hm1 : (N % n == 0) = false := by simpa using hm
        have hm2 : (N % n != 0) = true := by simpa using hm
        go_wp2_with fail
        (refine (igNorm_v _ kxy hN).mono ?_; rintro e w3 ⟨rfl, hb3⟩; have hz3 := hb3.size; (repeat (first | rw [World.size_alloc] at hz3 | rw [World.size_setCell] at hz3 | rw [World.size_drew] at hz3)); have pp := T2.K hb3 (b := w.heap.size + 1 + 1) (x := _) (y := _) (by (repeat (first | ((with_reducible apply T2.mk) <;> (with_reducible assumption)) | (with_reducible apply T2.Z) | (with_reducible apply T2.O) | ((with_reducible apply T2.B); (focus (simp; done))) | (with_reducible apply T2.A) | (with_reducible apply T2.D) | ((with_reducible apply T2.S); focus ((repeat (first | rw [World.size_alloc] | rw [World.size_setCell] | rw [World.size_drew])); omega)) | ((with_reducible apply T2.K); (focus (with_reducible assumption)))))); obtain ⟨kk5, kk6, fkk5, fkk6⟩ := pp)
        have hq3 := hq1.below hb3
        have ht' := ht.skip (by omega) (by rw [hNG]; exact hm)
        clear hq hq1
        go_wp2_with fail
        exact ⟨⟨n + 1, x, y, l, v, Ds, by simp, by omega, by omega, by simpa using ht', rfl, hq3⟩, by simp [intOf]; omega⟩
    · have hd1 : decide ((n : Int) * n ≤ N) = false := decide_eq_false hle
      obtain ⟨fa, hfa⟩ : ∃ fa, fiA x y = fa := ⟨_, rfl⟩
      obtain ⟨fb, hfb⟩ : ∃ fb, fiB x y = fb := ⟨_, rfl⟩
      obtain ⟨ft, hft⟩ : ∃ ft, fiT x y = ft := ⟨_, rfl⟩
      have hun : unO fa fb = decide (N = 1) := by
        have h1 := fi_nrm kxy
        rw [hfa, hfb, nrm_t kxy, hN] at h1
        rw [unO, h1]
      have hx := hq.c
      have hxf := hq.f
      go_wp2_with fail
      (refine (igNorm_v _ kxy hN).mono ?_; rintro e w1 ⟨rfl, hb1⟩; have hz1 := hb1.size; (repeat (first | rw [World.size_alloc] at hz1 | rw [World.size_setCell] at hz1 | rw [World.size_drew] at hz1)); have kk7 := keep hb1 (a := ⟨w.heap.size + 1, 0, none⟩) (v := _) (by (repeat (first | (with_reducible assumption) | (with_reducible apply sameS) | ((with_reducible apply born); (focus (simp; done)); (focus rfl)) | (with_reducible apply keepA) | (with_reducible apply keepD) | ((with_reducible apply keepS); focus ((repeat (first | rw [World.size_alloc] | rw [World.size_setCell] | rw [World.size_drew])); omega)) | ((with_reducible apply keep); (focus (with_reducible assumption)))))); have fkk7 := keepF hb1 (a := ⟨w.heap.size + 1, 0, none⟩) (v := _) (by (repeat (first | (with_reducible assumption) | (with_reducible apply sameS) | ((with_reducible apply born); (focus (simp; done)); (focus rfl)) | (with_reducible apply keepA) | (with_reducible apply keepD) | ((with_reducible apply keepS); focus ((repeat (first | rw [World.size_alloc] | rw [World.size_setCell] | rw [World.size_drew])); omega)) | ((with_reducible apply keep); (focus (with_reducible assumption)))))) (by (repeat (first | (with_reducible assumption) | ((with_reducible apply bornF); (focus (simp; done))) | (with_reducible apply keepFS) | (with_reducible apply keepFD) | ((with_reducible apply keepFA); (focus (repeat (first | (with_reducible assumption) | (with_reducible apply sameS) | ((with_reducible apply born); (focus (simp; done)); (focus rfl)) | (with_reducible apply keepA) | (with_reducible apply keepD) | ((with_reducible apply keepS); focus ((repeat (first | rw [World.size_alloc] | rw [World.size_setCell] | rw [World.size_drew])); omega)) | ((with_reducible apply keep); (focus (with_reducible assumption)))))))))); have pp := T2.K hb1 (b := w.heap.size + 1 + 1) (x := _) (y := _) (by (repeat (first | ((with_reducible apply T2.mk) <;> (with_reducible assumption)) | (with_reducible apply T2.Z) | (with_reducible apply T2.O) | ((with_reducible apply T2.B); (focus (simp; done))) | (with_reducible apply T2.A) | (with_reducible apply T2.D) | ((with_reducible apply T2.S); focus ((repeat (first | rw [World.size_alloc] | rw [World.size_setCell] | rw [World.size_drew])); omega)) | ((with_reducible apply T2.K); (focus (with_reducible assumption)))))); obtain ⟨kk8, kk9, fkk8, fkk9⟩ := pp; (try clear kk5 kk6 fkk5 fkk6))
      have hq1 := hq.below hb1
      go_wp2_with fail
      (refine (iFirstOf_v _ ⟨kxy, hfa, hfb, hft⟩).mono ?_; rintro e w2 ⟨rfl, hb2⟩; have hz2 := hb2.size; (repeat (first | rw [World.size_alloc] at hz2 | rw [World.size_setCell] at hz2 | rw [World.size_drew] at hz2)); have kk10 := keep hb2 (a := ⟨w.heap.size + 1, 0, none⟩) (v := _) (by (repeat (first | (with_reducible assumption) | (with_reducible apply sameS) | ((with_reducible apply born); (focus (simp; done)); (focus rfl)) | (with_reducible apply keepA) | (with_reducible apply keepD) | ((with_reducible apply keepS); focus ((repeat (first | rw [World.size_alloc] | rw [World.size_setCell] | rw [World.size_drew])); omega)) | ((with_reducible apply keep); (focus (with_reducible assumption)))))); have fkk10 := keepF hb2 (a := ⟨w.heap.size + 1, 0, none⟩) (v := _) (by (repeat (first | (with_reducible assumption) | (with_reducible apply sameS) | ((with_reducible apply born); (focus (simp; done)); (focus rfl)) | (with_reducible apply keepA) | (with_reducible apply keepD) | ((with_reducible apply keepS); focus ((repeat (first | rw [World.size_alloc] | rw [World.size_setCell] | rw [World.size_drew])); omega)) | ((with_reducible apply keep); (focus (with_reducible assumption)))))) (by (repeat (first | (with_reducible assumption) | ((with_reducible apply bornF); (focus (simp; done))) | (with_reducible apply keepFS) | (with_reducible apply keepFD) | ((with_reducible apply keepFA); (focus (repeat (first | (with_reducible assumption) | (with_reducible apply sameS) | ((with_reducible apply born); (focus (simp; done)); (focus rfl)) | (with_reducible apply keepA) | (with_reducible apply keepD) | ((with_reducible apply keepS); focus ((repeat (first | rw [World.size_alloc] | rw [World.size_setCell] | rw [World.size_drew])); omega)) | ((with_reducible apply keep); (focus (with_reducible assumption)))))))))); (try clear kk7 fkk7 kk8 kk9 fkk8 fkk9))
      have hq2 := hq1.below hb2
      clear hq hq1 t0 t1 t2 t3 hx hxf
      go_wp2_with fail
      (refine (iUnitOk_v _ hun).mono ?_; rintro e w3 ⟨rfl, hb3⟩; have hz3 := hb3.size; (repeat (first | rw [World.size_alloc] at hz3 | rw [World.size_setCell] at hz3 | rw [World.size_drew] at hz3)); have kk11 := keep hb3 (a := ⟨w.heap.size + 1, 0, none⟩) (v := _) (by (repeat (first | (with_reducible assumption) | (with_reducible apply sameS) | ((with_reducible apply born); (focus (simp; done)); (focus rfl)) | (with_reducible apply keepA) | (with_reducible apply keepD) | ((with_reducible apply keepS); focus ((repeat (first | rw [World.size_alloc] | rw [World.size_setCell] | rw [World.size_drew])); omega)) | ((with_reducible apply keep); (focus (with_reducible assumption)))))); have fkk11 := keepF hb3 (a := ⟨w.heap.size + 1, 0, none⟩) (v := _) (by (repeat (first | (with_reducible assumption) | (with_reducible apply sameS) | ((with_reducible apply born); (focus (simp; done)); (focus rfl)) | (with_reducible apply keepA) | (with_reducible apply keepD) | ((with_reducible apply keepS); focus ((repeat (first | rw [World.size_alloc] | rw [World.size_setCell] | rw [World.size_drew])); omega)) | ((with_reducible apply keep); (focus (with_reducible assumption)))))) (by (repeat (first | (with_reducible assumption) | ((with_reducible apply bornF); (focus (simp; done))) | (with_reducible apply keepFS) | (with_reducible apply keepFD) | ((with_reducible apply keepFA); (focus (repeat (first | (with_reducible assumption) | (with_reducible apply sameS) | ((with_reducible apply born); (focus (simp; done)); (focus rfl)) | (with_reducible apply keepA) | (with_reducible apply keepD) | ((with_reducible apply keepS); focus ((repeat (first | rw [World.size_alloc] | rw [World.size_setCell] | rw [World.size_drew])); omega)) | ((with_reducible apply keep); (focus (with_reducible assumption)))))))))); have pp := C2.K hb3 (b := w2.heap.size) (x := _) (y := _) (by (repeat (first | ((with_reducible apply C2.mk) <;> (with_reducible assumption)) | (with_reducible apply C2.Z) | (with_reducible apply C2.O) | ((with_reducible apply C2.B); (focus (simp; done))) | (with_reducible apply C2.A) | (with_reducible apply C2.D) | ((with_reducible apply C2.S); focus ((repeat (first | rw [World.size_alloc] | rw [World.size_setCell] | rw [World.size_drew])); omega)) | ((with_reducible apply C2.K); (focus (with_reducible assumption)))))); obtain ⟨kk12, kk13⟩ := pp; (try clear kk10 fkk10))
      have hq3 := (hq2.below (wx := w2.alloc (.cells #[.int .i64 fa, .int .i64 fb] 24)) (by (repeat' (first | (with_reducible exact Below.refl _ _) | (with_reducible refine Below.alloc ?_ ?_ _) | (with_reducible refine Below.drew ?_) | (with_reducible refine Below.setCell ?_ ?_ _) | (with_reducible refine Below.trans ?_ (Below.mono (by assumption) ?_)) | go_size)))).below hb3
      clear hq2
      by_cases h1 : N = 1
      · have hd2 : decide (N = 1) = true := decide_eq_true h1
        have hF := ht.unit (by rw [hNG]; exact h1)
        rw [hft] at hF
        rw [hd2]
        go_wp2_with fail
        go_region
        all_goals
          go_wp2_with fail
          have hq4 := hq3.below (wx := w3.drew) (by (repeat' (first | (with_reducible exact Below.refl _ _) | (with_reducible refine Below.alloc ?_ ?_ _) | (with_reducible refine Below.drew ?_) | (with_reducible refine Below.setCell ?_ ?_ _) | (with_reducible refine Below.trans ?_ (Below.mono (by assumption) ?_)) | go_size)))
          show LeavesInM _ _ _ _ _ _ (Ds.map mark) _ _
          refine marks_back (.tuple #[.int .i64 ft, v]) Ds _ hq4.nd (fun D hD => (hq4.d D hD).2.2.2) (fun W' hk => ⟨?_, ?_⟩)
          · simp [results, Try.results68, go_sem]
          · exact ⟨ft, l, v, rfl, hF, (hq4.g.kept hk (fun g h hD => (hq4.d g hD).2.2.1 h)).mono (by omega), hq4.b.trans (hk.below (fun b hb hD => by have := (hq4.d b hD).1; omega) hq4.b.size)⟩
      · have hd2 : decide (N = 1) = false := decide_eq_false h1
        have hF := ht.prime (by omega) (by rw [hNG]; omega) (by rw [hNG]; exact h1)
        rw [hft, hfa, hfb] at hF
        rw [hd2]
        have hg3 := hq3.g
        have hl8 : l.length + [(fa, fb)].length ≤ 8000000 := by simp only [List.length_cons, List.length_nil]; omega
        go_wp2_with (at_builtin; refine appLPl _ rfl _ _ rfl (w.heap.size + 3) v l [(fa, fb)] rfl (GS.alloc hg3 _) (w3.heap.size + 1) _ rfl (lo_new rfl) hl8 (by have := hq3.hs; simp; omega) ?_; intro v8 w8 hg8 hgr8 hat8; obtain ⟨a8, n8, cap8, rfl⟩ := gs_slice hg8; have c8 := (grown_keep hgr8).cell (p := ⟨w.heap.size + 1, 0, none⟩) (v := v) (hg3.ne (by dsimp only; omega)) (by (repeat (first | (with_reducible assumption) | (with_reducible apply sameS) | ((with_reducible apply born); (focus (simp; done)); (focus rfl)) | (with_reducible apply keepA) | (with_reducible apply keepD) | ((with_reducible apply keepS); focus ((repeat (first | rw [World.size_alloc] | rw [World.size_setCell] | rw [World.size_drew])); omega)) | ((with_reducible apply keep); (focus (with_reducible assumption)))))); have f8 := (grown_keep hgr8).frozen (p := ⟨w.heap.size + 1, 0, none⟩) (v := v) (hg3.ne (by dsimp only; omega)) (by (repeat (first | (with_reducible assumption) | (with_reducible apply sameS) | ((with_reducible apply born); (focus (simp; done)); (focus rfl)) | (with_reducible apply keepA) | (with_reducible apply keepD) | ((with_reducible apply keepS); focus ((repeat (first | rw [World.size_alloc] | rw [World.size_setCell] | rw [World.size_drew])); omega)) | ((with_reducible apply keep); (focus (with_reducible assumption)))))) (by (repeat (first | (with_reducible assumption) | ((with_reducible apply bornF); (focus (simp; done))) | (with_reducible apply keepFS) | (with_reducible apply keepFD) | ((with_reducible apply keepFA); (focus (repeat (first | (with_reducible assumption) | (with_reducible apply sameS) | ((with_reducible apply born); (focus (simp; done)); (focus rfl)) | (with_reducible apply keepA) | (with_reducible apply keepD) | ((with_reducible apply keepS); focus ((repeat (first | rw [World.size_alloc] | rw [World.size_setCell] | rw [World.size_drew])); omega)) | ((with_reducible apply keep); (focus (with_reducible assumption)))))))))))
        have hq8 := (hq3.below (wx := w3.alloc (.cells #[.int .i64 fa, .int .i64 fb] 24)) (by (repeat' (first | (with_reducible exact Below.refl _ _) | (with_reducible refine Below.alloc ?_ ?_ _) | (with_reducible refine Below.drew ?_) | (with_reducible refine Below.setCell ?_ ?_ _) | (with_reducible refine Below.trans ?_ (Below.mono (by assumption) ?_)) | go_size)))).app hg8 hgr8 hat8
        go_region
        all_goals
          go_wp2_with fail
          have hq9 := hq8.below (wx := (w8.setCell ⟨w.heap.size + 1, 0, none⟩ (.slice a8 n8 cap8)).drew) (by (repeat' (first | (with_reducible exact Below.refl _ _) | (with_reducible refine Below.alloc ?_ ?_ _) | (with_reducible refine Below.drew ?_) | (with_reducible refine Below.setCell ?_ ?_ _) | (with_reducible refine Below.trans ?_ (Below.mono (by assumption) ?_)) | go_size)))
          show LeavesInM _ _ _ _ _ _ (Ds.map mark) _ _
          refine marks_back (.tuple #[.int .i64 ft, .slice a8 n8 cap8]) Ds _ hq9.nd (fun D hD => (hq9.d D hD).2.2.2) (fun W' hk => ⟨?_, ?_⟩)
          · simp [results, Try.results68, go_sem]
          · exact ⟨ft, _, _, rfl, hF, (hq9.g.kept hk (fun g h hD => (hq9.d g hD).2.2.1 h)).mono (by omega), hq9.b.trans (hk.below (fun b hb hD => by have := (hq9.d b hD).1; omega) hq9.b.size)⟩
end Go.Proofs.Ytahnkecdningnaa
