import Derived.Test.YtahnkecdningnaaSe
import Derived.Lib.Mul64
import Derived.Laws.Bits64b
namespace Go.Proofs.Ytahnkecdningnaa
open Go Go.RowKit
attribute [local go_sem] World.cell?_alloc_some cell?_alloc2_some cell?_alloc3_some cell?_alloc4_some frozen?_alloc_some frozen?_alloc2_some frozen?_alloc3_some World.cell?_setCell_far new_ne0 new_ne1 new_ne2 new_ne3 lt2 lt3 lt4 lt5 lt6 lt7 lt8 lt9

theorem mask1 : bits .and .u64 1 4294967295 = 1 := by kernel_rfl
theorem maskK (k : Nat) (h : k ≤ 20) : bits .and .u64 (k : Int) 4294967295 = (k : Int) := by
  have h1 := bits_and_u64_nat k 4294967295 (by omega) (by omega)
  have e : k &&& 4294967295 = k % 4294967296 := Nat.and_two_pow_sub_one_eq_mod k 32
  rw [e, Nat.mod_eq_of_lt (by omega)] at h1
  exact h1
theorem mask0 : bits .and .u64 0 4294967295 = 0 := by kernel_rfl
set_option maxHeartbeats 4000000 in
theorem iMul64 (k : Nat) (w : World) (h : k ≤ 20) : Calls Try.prog 108 #[.int .u64 1, .int .u64 (k : Int)] w fun e w' => e = .returned (.tuple #[.int .u64 0, .int .u64 (k : Int)]) ∧ w = w' := by
  have m1 := mask1
  have m2 := maskK k h
  have m0 := mask0
  have d1 : (k : Int) / 4294967296 = 0 := by omega
  have w1 : IntKind.u64.wrap (k : Int) = k := by rw [IntKind.wrap_u64]; omega
  go_enter Try.func108, Try.ntmps108
  go_wp2_with fail
  go_returns
  simp
theorem iMul (k : Nat) (w : World) (h : k ≤ 20) : Calls Try.prog 103 #[.int .u64 1, .int .u64 (k : Int)] w fun e w' => e = .returned (.tuple #[.int .u64 0, .int .u64 (k : Int)]) ∧ w = w' := by
  go_enter Try.func103, Try.ntmps103
  go_wp2_with fail
  refine (iMul64 k _ h).mono ?_
  rintro e w1 ⟨rfl, rfl⟩
  go_wp2_with fail
  go_returns
  exact ⟨rfl, rfl⟩

/-- A row of numbers that was laid whole. -/
def Row (W : World) (g : Nat) (L : List (Int × Int)) : Prop := W.heap[g]? = some (.cells (gCells L).toArray 24 (0, 0))
theorem Row.ao {W : World} {g : Nat} {L : List (Int × Int)} (h : Row W g L) : Ao W g 0 L := fun j x y hj => by
  obtain ⟨e0, e1⟩ := gCells_at L j x y hj
  constructor
  · rw [World.cell?]; dsimp only; rw [h]; simpa [show 0 + j * 2 = 2 * j by omega] using e0
  · rw [World.cell?]; dsimp only; rw [h]; rw [show 2 * j + 1 = j * 2 + 1 by omega] at e1; simpa using e1
theorem Row.gs {W : World} {g base : Nat} {L : List (Int × Int)} (h : Row W g L) (hb : base ≤ g) (hl : L.length ≤ 8000000) : GS W base (.slice (some ⟨g, 0, none⟩) L.length L.length) L :=
  ⟨by rw [gCells_len], .inr ⟨g, L.length, (gCells L).toArray, rfl, hb, h, Nat.le_refl _, by unfold maxLen; omega, by simp [gCells_len], by rw [List.take_of_length_le]; simp [gCells_len]⟩⟩
theorem Ao.take {W : World} {g o : Nat} {l : List (Int × Int)} (h : Ao W g o l) (n : Nat) : Ao W g o (l.take n) := fun j x y hj => h j x y (by
  rw [List.getElem?_take] at hj
  split at hj
  · exact hj
  · cases hj)
theorem run_copy2 (w : World) (ty : TypeId) (g n dLen dCap sg so sLen sCap : Nat) (L M : List (Int × Int)) (hg : Row w g L) (hm : M.length = Nat.min sLen dLen) (hsrc : Ao w sg so M) (hfit : n + M.length ≤ L.length) :
    (Builtin.copy_ #[39, 39] ty #[.slice (some ⟨g, n * 2, none⟩) dLen dCap, .slice (some ⟨sg, so, none⟩) sLen sCap]).run Try.prog w =
      .ok (goInt M.length) (w.setRow g (gCells (L.take n ++ M ++ L.drop (n + M.length))).toArray) := by
  obtain ⟨i, hi, -, hz1, -⟩ := info_parts gauss_info
  have hl := run_loadCells_list (P := Try.prog) w ⟨sg, so, none⟩ (gCells M) hsrc.cells
  have hst := run_storeCells_at Try.prog g (n * 2) 24 (gCells M) 0 (gCells L).toArray w hg (by simp [gCells_len]; omega) (gCells_one M)
  rw [gCells_append, gCells_append, gCells_take, gCells_drop]
  rw [gCells_len] at hl
  simp only [Nat.add_zero, gCells_len] at hst
  have e : (n + M.length) * 2 = n * 2 + M.length * 2 := by omega
  simp [Builtin.copy_, run_underlying Try.underlying39, Builtin.lenOf, Builtin.firstCells, sizeOf, typeInfo, hi, hz1, ← hm, hl, hst, e]
theorem keep_setRow (w : World) (g : Nat) (cs : Array Value) : Keep (fun b => b ≠ g) w (w.setRow g cs) := ⟨rfl, rfl, rfl, by simp [World.setRow], fun b hb _ => setRow_other w g b cs (by omega)⟩
theorem copyPl (w : World) {ops : Array Oper} {rest : List Oper} {o : Oper} {a : Act} {Q : Exit → Act → World → Prop}
    (hgd : o.guard = none) (d s : Operand) (hop : o.op = Op.call { callee := Callee.builtin Builtin.copy, args := #[d, s], argTypes := #[39, 39] })
    (g n o' dLen dCap sg so sLen sCap : Nat) (L M : List (Int × Int)) (hd : a.eval d = .slice (some ⟨g, o', none⟩) dLen dCap) (hs : a.eval s = .slice (some ⟨sg, so, none⟩) sLen sCap) (ho : o' = n * 2)
    (hg : Row w g L) (hm : M.length = Nat.min sLen dLen) (hsrc : Ao w sg so M) (hfit : n + M.length ≤ L.length)
    (hK : ∀ w', Row w' g (L.take n ++ M ++ L.drop (n + M.length)) → Keep (fun b => b ≠ g) w w' → wpList Try.prog ops Q rest (a.put o.dst (goInt M.length)) w') :
    wpList Try.prog ops Q (o :: rest) a w := by
  subst ho
  refine wpList_plain hgd fun K hK' => ?_
  have hrun := run_copy2 w o.type g n dLen dCap sg so sLen sCap L M hg hm hsrc hfit
  unfold Oper.wp execOp
  simp only [hop, resolve, invoke, builtin, Sem.run_bind, Sem.run_pure, Result.andThen_ok, List.map_toArray, List.map_cons, List.map_nil, hd, hs, hrun]
  exact hK' _ _ (hK _ (setRow_heap w g _ _ _ _ hg) (keep_setRow w g _))
theorem copyStep (w : World) {ops : Array Oper} {o : Oper} {a : Act} {K : Act → World → Prop} {Q : Exit → Act → World → Prop} {E : Prop}
    (hgd : o.guard = none) (d s : Operand) (hop : o.op = Op.call { callee := Callee.builtin Builtin.copy, args := #[d, s], argTypes := #[39, 39] })
    (g n o' dLen dCap sg so sLen sCap : Nat) (L M : List (Int × Int)) (hd : a.eval d = .slice (some ⟨g, o', none⟩) dLen dCap) (hs : a.eval s = .slice (some ⟨sg, so, none⟩) sLen sCap) (ho : o' = n * 2)
    (hg : Row w g L) (hm : M.length = Nat.min sLen dLen) (hsrc : Ao w sg so M) (hfit : n + M.length ≤ L.length)
    (hK : ∀ w', Row w' g (L.take n ++ M ++ L.drop (n + M.length)) → Keep (fun b => b ≠ g) w w' → K (a.put o.dst (goInt M.length)) w') :
    if Region.wanted o (yielded ops a.tmps) = true then Oper.wp Try.prog o a w K Q else E := by
  have hw : Region.wanted o (yielded ops a.tmps) = true := by simp [Region.wanted, hgd]
  rw [if_pos hw]
  subst ho
  have hrun := run_copy2 w o.type g n dLen dCap sg so sLen sCap L M hg hm hsrc hfit
  unfold Oper.wp execOp
  simp only [hop, resolve, invoke, builtin, Sem.run_bind, Sem.run_pure, Result.andThen_ok, List.map_toArray, List.map_cons, List.map_nil, hd, hs, hrun]
  exact hK _ (setRow_heap w g _ _ _ _ hg) (keep_setRow w g _)
/-- A row of k numbers of which the first n are laid. -/
def RepL (p : Int × Int) (k n : Nat) : List (Int × Int) := List.replicate n p ++ List.replicate (k - n) (0, 0)
theorem rep_len {p : Int × Int} {k n : Nat} (h : n ≤ k) : (RepL p k n).length = k := by simp [RepL]; omega
theorem rep_next {p : Int × Int} {k n m : Nat} (_h : n + m ≤ k) : (RepL p k n).take n ++ List.replicate m p ++ (RepL p k n).drop (n + (List.replicate m p).length) = RepL p k (n + m) := by
  unfold RepL
  rw [List.length_replicate, List.take_left' (by simp), List.drop_append]
  simp only [List.drop_replicate, List.length_replicate]
  rw [show n - (n + m) = 0 by omega, show n + m - n = m by omega, List.replicate_zero, List.nil_append, show k - n - m = k - (n + m) by omega, List.replicate_append_replicate]
theorem rep_take {p : Int × Int} {k n m : Nat} (h : m ≤ n) : (RepL p k n).take m = List.replicate m p := by
  unfold RepL
  rw [List.take_append_of_le_length (by simp; omega), List.take_replicate, Nat.min_eq_left h]
theorem gCells_zero (k : Nat) : gCells (List.replicate k (0, 0)) = List.replicate (k * 2) (.int .i64 0) := by
  induction k with
  | zero => rfl
  | succ k ih => rw [List.replicate_succ, gCells, ih, show (k + 1) * 2 = k * 2 + 1 + 1 by omega]; rfl
theorem made_zero (n : Nat) : (madeCells (Value.agg #[.int .i64 0, .int .i64 0]).cells n).toList = List.replicate n (.int .i64 0) := by
  refine List.ext_getElem (by simp [madeCells]) (fun j h1 h2 => ?_)
  rw [List.getElem_replicate]
  have hj : j % 2 = 0 ∨ j % 2 = 1 := by omega
  simp only [madeCells, Value.cells, Array.toList_map, List.getElem_map, Array.toList_range, List.getElem_range]
  rcases hj with h | h <;> simp [h]
theorem row_made {w' : World} {base X k : Nat} (_hX : X = X) (h : w'.ownsRow base 24 2 (.slice (some ⟨X, 0, none⟩) k k) k (madeCells (Value.agg #[.int .i64 0, .int .i64 0]).cells (k * 2)).toList) (p : Int × Int) : Row w' X (RepL p k 0) := by
  rcases h.2 with ⟨h, -⟩ | ⟨g, cap, cur, e, -, hg, -, -, hs, ht⟩
  · cases h
  · injection e with e1 e2 e3
    injection e1 with e1
    injection e1 with e1
    subst e1 e3
    unfold Row
    rw [hg]
    have hc : cur.toList = gCells (RepL p k 0) := by
      rw [List.take_of_length_le (by simp [hs])] at ht
      rw [ht, made_zero, show RepL p k 0 = List.replicate k (0, 0) by simp [RepL], gCells_zero]
    rw [← hc]
theorem sl_from (g k n : Nat) (h : n < k) (W : World) : (Instr.slice 39 (.slice (some ⟨g, 0, none⟩) k k) (some (.int .i64 (n : Int))) none none).run Try.prog W = .ok (.slice (some ⟨g, n * 2, none⟩) (k - n) (k - n)) W := by
  obtain ⟨i, hi, -, hz1, -⟩ := info_parts gauss_info
  have hel : Try.prog.elem 39 = 24 := by kernel_rfl
  have hun : Try.prog.underlying 39 = some (.slice (Try.prog.elem 39)) := by rw [hel]; exact Try.underlying39
  have hsz : (sizeOf 24).run Try.prog W = .ok 2 W := by simp [sizeOf, typeInfo, hi, hz1]
  rw [run_slice_l (P := Try.prog) W 39 _ _ _ hun .i64 n (by omega) (by omega), hel, hsz]
  simp only [Result.andThen, sliced, Int.toNat_natCast]
  rw [if_neg (by omega)]
  simp only [Option.map_some, Addr.add]
  split
  · rename_i h0; simp [h0]
  · simp
theorem sl_upto (g k n : Nat) (h : n ≤ k) (W : World) : (Instr.slice 39 (.slice (some ⟨g, 0, none⟩) k k) none (some (.int .i64 (n : Int))) none).run Try.prog W = .ok (.slice (some ⟨g, 0, none⟩) n k) W := by
  obtain ⟨i, hi, -, hz1, -⟩ := info_parts gauss_info
  have hel : Try.prog.elem 39 = 24 := by kernel_rfl
  have hun : Try.prog.underlying 39 = some (.slice (Try.prog.elem 39)) := by rw [hel]; exact Try.underlying39
  have hsz : (sizeOf 24).run Try.prog W = .ok 2 W := by simp [sizeOf, typeInfo, hi, hz1]
  rw [run_slice_h (P := Try.prog) W 39 _ _ _ hun .i64 n (by omega) (by omega), hel, hsz]
  simp only [Result.andThen, sliced, Int.toNat_natCast]
  simp [Addr.add]
set_option maxRecDepth 100000 in
set_option maxHeartbeats 8000000 in
theorem iRepeat (p q : Int) (k : Nat) (hk : k ≤ 20) (B : Nat) (w : World) (c0 : w.cell? ⟨B, 0, none⟩ = some (.int .i64 p)) (c1 : w.cell? ⟨B, 1, none⟩ = some (.int .i64 q)) :
    Calls Try.prog 92 #[.slice (some ⟨B, 0, none⟩) 1 1, .int .i64 (k : Int)] w fun e w' => ∃ v, e = .returned v ∧ GS w' w.heap.size v (List.replicate k (p, q)) ∧ Below w.heap.size w w' := by
  obtain ⟨i, hi, hz0, hz1, hz2⟩ := info_parts gauss_info
  have hBlt : B < w.heap.size := World.block_lt_of_cell? _ _ c0
  have hsrc : Ao w B 0 [(p, q)] := fun j a b hj => by
    cases j with
    | zero =>
      obtain ⟨rfl, rfl⟩ : p = a ∧ q = b := by simpa using hj
      exact ⟨c0, c1⟩
    | succ j => simp at hj
  have u1 : IntKind.u64.wrap (k : Int) = k := by rw [IntKind.wrap_u64]; omega
  have u2 : IntKind.i64.wrap (k : Int) = k := IntWalk.i64_in _ (by omega)
  have d1 : decide ((k : Int) < 0) = false := decide_eq_false (by omega)
  have d2 : decide ((9223372036854775807 : Int) < (k : Int)) = false := decide_eq_false (by omega)
  go_enter Try.func92, Try.ntmps92
  go_wp2_with fail
  refine (iMul k _ hk).mono ?_
  rintro e w1 ⟨rfl, rfl⟩
  obtain ⟨m, hm⟩ : ∃ m, Nat.min 1 k = m := ⟨_, rfl⟩
  have hmk : m ≤ k := hm ▸ Nat.min_le_right _ _
  have hm1 : m ≤ 1 := hm ▸ Nat.min_le_left _ _
  have hm0 : m = 0 → k = 0 := fun h => by have h2 : min 1 k = m := hm; omega
  have hMl : (List.replicate m (p, q)).length = Nat.min 1 k := by rw [List.length_replicate, hm]
  have hMs : Ao w B 0 (List.replicate m (p, q)) := by
    have h := hsrc.take m
    rwa [show [(p, q)].take m = List.replicate m (p, q) from by rw [show [(p, q)] = List.replicate 1 (p, q) from rfl, List.take_replicate, Nat.min_eq_left hm1]] at h
  have hfit : 0 + (List.replicate m (p, q)).length ≤ (RepL (p, q) k 0).length := by rw [rep_len (by omega), List.length_replicate]; omega
  have hBne : B ≠ w.heap.size := by omega
  clear hm hsrc c0 c1
  go_wp2_with (at_make; refine wpList_make_full _ rfl _ _ 39 rfl w.heap.size 24 i _ 2 Try.underlying39 hi hz0 hz1 _ _ _ _ k rfl rfl (by simp) (by simp) (by rw [hz2]; omega) (by unfold maxLen; omega) (Nat.le_refl _) ?_; intro w1 hown hgr; have hrow := row_made rfl hown (p, q); have hb1 := below_grown hgr; have hMs1 := hMs.keep (Keep.of_below (fun _ => True) hb1) trivial; clear hown hgr)
  have hcp := fun ty => run_copy2 w1 ty w.heap.size 0 k k B 0 1 1 (RepL (p, q) k 0) (List.replicate m (p, q)) hrow hMl hMs1 hfit
  rw [rep_next (p := (p, q)) (k := k) (n := 0) (m := m) (by omega), Nat.zero_add, Nat.zero_mul, List.length_replicate] at hcp
  rw [hcp]
  have hr2 : Row (w1.setRow w.heap.size (gCells (RepL (p, q) k m)).toArray) w.heap.size (RepL (p, q) k m) := setRow_heap w1 w.heap.size _ _ _ _ hrow
  have hk2 := keep_setRow w1 w.heap.size (gCells (RepL (p, q) k m)).toArray
  have hb2 := hb1.trans (hk2.below (fun b hb => by omega) hb1.size)
  obtain ⟨w2, hw2⟩ : ∃ w2, w1.setRow w.heap.size (gCells (RepL (p, q) k m)).toArray = w2 := ⟨_, rfl⟩
  rw [hw2] at hr2 hb2 ⊢
  clear hcp hk2 hw2
  clear hrow hb1 hMs1 hMs hMl hfit
  go_wp2_with fail
  have HR := Lib.hid hr2
  clear hr2
  go_loopw [8] (fun u wr => ∃ n : Nat, u = .int .i64 (n : Int) ∧ n ≤ k ∧ (n = 0 → k = 0) ∧ Hid (Row wr w.heap.size (RepL (p, q) k n)) ∧ Below w.heap.size w wr) (fun u _ => k - (intOf u).toNat)
  case atStart => exact ⟨m, rfl, hmk, hm0, HR, hb2⟩
  case round =>
    clear HR hb2 hmk hm1 hm0
    obtain ⟨n, rfl, hn, hn0, HR, hb⟩ := hrel
    by_cases hlt : n < k
    · obtain ⟨m, hm⟩ : ∃ m, Nat.min n (k - n) = m := ⟨_, rfl⟩
      have hmn : m ≤ n := hm ▸ Nat.min_le_left _ _
      have hmk : m ≤ k - n := hm ▸ Nat.min_le_right _ _
      have hmp : 1 ≤ m := by
        rw [← hm]
        exact Nat.le_min.2 ⟨by omega, by omega⟩
      have sF := sl_from w.heap.size k n hlt
      have sT := sl_upto w.heap.size k n hn
      have hMl : (List.replicate m (p, q)).length = Nat.min n (k - n) := by rw [List.length_replicate, hm]
      have hMs : Ao wr.drew w.heap.size 0 (List.replicate m (p, q)) := by
        have h := (Row.ao HR.out).take m
        rw [rep_take hmn] at h
        exact h
      have hfit : n + (List.replicate m (p, q)).length ≤ (RepL (p, q) k n).length := by rw [rep_len hn, List.length_replicate]; omega
      clear hm
      go_wp2_with fail
      go_region_law (refine copyStep _ rfl _ _ rfl w.heap.size n _ _ _ w.heap.size 0 _ _ (RepL (p, q) k n) (List.replicate m (p, q)) rfl rfl rfl HR.out hMl hMs hfit ?_; intro w2 hr2 hk2; rw [rep_next (p := (p, q)) (k := k) (n := n) (m := m) (by omega)] at hr2; rw [List.length_replicate])
      all_goals
        have hb2 := hb.drew.trans (hk2.below (fun b hb => by omega) hb.size)
        have HR2 := Lib.hid hr2
        clear hMl hMs hfit sF sT hr2 HR
        have hw : IntKind.i64.wrap ((n : Int) + (m : Int)) = ((n + m : Nat) : Int) := by rw [IntWalk.i64_in _ (by omega)]; omega
        go_wp2_with fail
        go_simp
        first
          | (refine ⟨⟨n + m, ?_, by omega, fun h => by omega, HR2⟩, ?_⟩
             · first | exact hw | (simp; done) | omega
             · first | (rw [hw]; simp [intOf]; omega) | (simp [intOf]; omega))
          | (refine ⟨⟨n + m, ?_, by omega, fun h => by omega, HR2, hb2⟩, ?_⟩
             · first | exact hw | (simp; done) | omega
             · first | (rw [hw]; simp [intOf]; omega) | (simp [intOf]; omega))
          | trace_state
    · obtain rfl : n = k := by omega
      have hgs : GS wr w.heap.size (.slice (some ⟨w.heap.size, 0, none⟩) n n) (List.replicate n (p, q)) := by
        have h := Row.gs HR.out (base := w.heap.size) (Nat.le_refl _) (by rw [rep_len (Nat.le_refl _)]; omega)
        rw [rep_len (Nat.le_refl _), show RepL (p, q) n n = List.replicate n (p, q) by simp [RepL]] at h
        exact h
      have HG := Lib.hid hgs
      clear hgs
      go_wp2_with fail
      go_returns
      exact ⟨_, rfl, HG.out, hb⟩
end Go.Proofs.Ytahnkecdningnaa
