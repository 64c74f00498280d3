import Derived.Test.YtahnkecdningnaaMe
import Derived.Test.YtahnkecdningnaaJp
import Derived.Test.YtahnkecdningnaaL
import Derived.Deep.RegionHeld3
import Derived.Test.YtahnkecdningnaaYs
import Derived.Deep.RegionLaw
import Derived.Laws.CopyRow
import Derived.OwnWalk
namespace Go.Proofs.Ytahnkecdningnaa
open Go Go.RowKit
attribute [local go_sem] World.cell?_alloc_some cell?_alloc2_some cell?_alloc3_some cell?_alloc4_some frozen?_alloc_some frozen?_alloc2_some frozen?_alloc3_some World.cell?_setCell_far new_ne0 new_ne1 new_ne2 new_ne3 lt2 lt3 lt4 lt5 lt6 lt7 lt8 lt9

def cmpI (x y : Int) : Int := if x < y then -1 else if y < x then 1 else 0
theorem isNaN (x : Int) (w : World) : Calls Try.prog 104 #[.int .i64 x] w fun e w' => e = .returned (.bool false) ∧ w = w' := by
  go_enter Try.func104, Try.ntmps104
  go_wp2_with fail
  go_returns
  exact ⟨by simp, rfl⟩
theorem iCompare (x y : Int) (w : World) : Calls Try.prog 95 #[.int .i64 x, .int .i64 y] w fun e w' => e = .returned (.int .i64 (cmpI x y)) ∧ w = w' := by
  unfold cmpI
  by_cases h1 : x < y
  · have d1 : decide (x < y) = true := decide_eq_true h1
    rw [if_pos h1]
    go_enter Try.func95, Try.ntmps95
    go_wp2_with fail
    refine (isNaN x _).mono ?_
    rintro e w1 ⟨rfl, rfl⟩
    go_wp2_with fail
    refine (isNaN y _).mono ?_
    rintro e w1 ⟨rfl, rfl⟩
    go_wp2_with fail
    go_returns
    exact ⟨rfl, rfl⟩
  · have d1 : decide (x < y) = false := decide_eq_false h1
    rw [if_neg h1]
    by_cases h2 : y < x
    · have d2 : decide (y < x) = true := decide_eq_true h2
      rw [if_pos h2]
      go_enter Try.func95, Try.ntmps95
      go_wp2_with fail
      refine (isNaN x _).mono ?_
      rintro e w1 ⟨rfl, rfl⟩
      go_wp2_with fail
      refine (isNaN y _).mono ?_
      rintro e w1 ⟨rfl, rfl⟩
      go_wp2_with fail
      go_returns
      exact ⟨rfl, rfl⟩
    · have d2 : decide (y < x) = false := decide_eq_false h2
      rw [if_neg h2]
      go_enter Try.func95, Try.ntmps95
      go_wp2_with fail
      refine (isNaN x _).mono ?_
      rintro e w1 ⟨rfl, rfl⟩
      go_wp2_with fail
      refine (isNaN y _).mono ?_
      rintro e w1 ⟨rfl, rfl⟩
      go_wp2_with fail
      go_returns
      exact ⟨rfl, rfl⟩
theorem iOr (x y : Int) (B : Nat) (w : World) (c0 : w.cell? ⟨B, 0, none⟩ = some (.int .i64 x)) (c1 : w.cell? ⟨B, 1, none⟩ = some (.int .i64 y)) : Calls Try.prog 94 #[.slice (some ⟨B, 0, none⟩) 2 2] w fun e w' => e = .returned (.int .i64 (if x = 0 then y else x)) ∧ w = w' := by
  by_cases h1 : x = 0
  · have d1 : (x != 0) = false := by simpa using h1
    rw [if_pos h1]
    by_cases h2 : y = 0
    · have d2 : (y != 0) = false := by simpa using h2
      go_enter Try.func94, Try.ntmps94
      go_wp2_with fail
      refine wp_loop_rounds 3 ?_
      rw [rounds_succ]
      go_wp2_with fail
      rw [rounds_succ]
      go_wp2_with fail
      rw [rounds_succ]
      go_wp2_with fail
      go_returns
      exact ⟨by simp [h2], rfl⟩
    · have d2 : (y != 0) = true := by simpa using h2
      go_enter Try.func94, Try.ntmps94
      go_wp2_with fail
      refine wp_loop_rounds 3 ?_
      rw [rounds_succ]
      go_wp2_with fail
      rw [rounds_succ]
      go_wp2_with fail
      go_returns
      exact ⟨rfl, rfl⟩
  · have d1 : (x != 0) = true := by simpa using h1
    rw [if_neg h1]
    go_enter Try.func94, Try.ntmps94
    go_wp2_with fail
    refine wp_loop_rounds 3 ?_
    rw [rounds_succ]
    go_wp2_with fail
    go_returns
    exact ⟨rfl, rfl⟩
theorem iOr_v {x y z : Int} {B : Nat} {w : World} (c0 : w.cell? ⟨B, 0, none⟩ = some (.int .i64 x)) (c1 : w.cell? ⟨B, 1, none⟩ = some (.int .i64 y)) (h : (if x = 0 then y else x) = z) : Calls Try.prog 94 #[.slice (some ⟨B, 0, none⟩) 2 2] w fun e w' => e = .returned (.int .i64 z) ∧ w = w' := by
  subst h; exact iOr x y B w c0 c1
theorem iCompare_v {x y z : Int} (w : World) (h : cmpI x y = z) : Calls Try.prog 95 #[.int .i64 x, .int .i64 y] w fun e w' => e = .returned (.int .i64 z) ∧ w = w' := by
  subst h; exact iCompare x y w
theorem igNorm_is {a b n : Int} (w : World) (k : gok a b = true) (h : a * a + b * b = n) : Calls Try.prog 46 #[.agg #[.int .i64 a, .int .i64 b]] w fun e w' => e = .returned (.int .i64 n) ∧ w.alloc (.cells #[.int .i64 a, .int .i64 b] 24) = w' := by
  subst h
  have hs := sq_bd k
  have hw1 : IntKind.i64.wrap (a * a) = a * a := IntWalk.i64_in _ (by omega)
  have hw2 : IntKind.i64.wrap (b * b) = b * b := IntWalk.i64_in _ (by omega)
  have hw3 : IntKind.i64.wrap (a * a + b * b) = a * a + b * b := IntWalk.i64_in _ (by omega)
  go_enter Try.func46, Try.ntmps46
  go_wp2_with fail
  go_returns
  exact ⟨by simp [*], rfl⟩
/-- The order of factors, as it is told. -/
def bnI (p q : Int × Int) : Int := if cmpI (nG p) (nG q) = 0 then cmpI p.1 q.1 else cmpI (nG p) (nG q)
theorem bn_le (p q : Int × Int) : decide (bnI p q ≤ 0) = leB6 p q := by
  unfold bnI leB6 cmpI
  by_cases h1 : nG p < nG q
  · simp [h1]
  · by_cases h2 : nG q < nG p
    · have : ¬ nG p = nG q := by omega
      simp [h1, h2, this]
    · have e : nG p = nG q := by omega
      by_cases h3 : p.1 < q.1
      · simp [e, h3] <;> omega
      · by_cases h4 : q.1 < p.1
        · simp [e, h3, h4] <;> omega
        · simp [e, h3, h4] <;> omega
set_option maxHeartbeats 4000000 in
theorem iByNorms (a b c d : Int) (w : World) (k1 : gok a b = true) (k2 : gok c d = true) : Calls Try.prog 70 #[.agg #[.int .i64 a, .int .i64 b], .agg #[.int .i64 c, .int .i64 d]] w fun e w' => e = .returned (.int .i64 (bnI (a, b) (c, d))) ∧ Below w.heap.size w w' := by
  obtain ⟨n, hn⟩ : ∃ n, a * a + b * b = n := ⟨_, rfl⟩
  obtain ⟨m, hm⟩ : ∃ m, c * c + d * d = m := ⟨_, rfl⟩
  have hb : bnI (a, b) (c, d) = if cmpI n m = 0 then cmpI a c else cmpI n m := by rw [← hn, ← hm]; rfl
  obtain ⟨x, hx⟩ : ∃ x, cmpI n m = x := ⟨_, rfl⟩
  obtain ⟨y, hy⟩ : ∃ y, cmpI a c = y := ⟨_, rfl⟩
  rw [hb, hx, hy]
  clear hb
  obtain ⟨z, hz⟩ : ∃ z, (if x = 0 then y else x) = z := ⟨_, rfl⟩
  rw [hz]
  go_enter Try.func70, Try.ntmps70
  go_upto_region 1 with fail
  (go_region_held3 (fun w' => w'.cell? ⟨w.heap.size, 0, none⟩ = some (.int .i64 (a)) ∧ w'.cell? ⟨w.heap.size, 1, none⟩ = some (.int .i64 (b)) ∧ w'.cell? ⟨w.heap.size + 1, 0, none⟩ = some (.int .i64 (c)) ∧ w'.cell? ⟨w.heap.size + 1, 1, none⟩ = some (.int .i64 (d))) (first | (go_keep; done) | ((try dsimp only); refine ⟨?_, ?_, ?_, ?_⟩ <;> (repeat (first | (with_reducible assumption) | (with_reducible apply sameS) | ((with_reducible apply born); (focus (simp; done)); (focus rfl)) | (with_reducible apply keepA) | (with_reducible apply keepD) | ((with_reducible apply keepS); focus ((repeat (first | rw [World.size_alloc] | rw [World.size_setCell] | rw [World.size_drew])); omega)) | ((with_reducible apply keep); (focus (with_reducible assumption))))))) (first | (go_at_call 46; refine (igNorm_is _ (by first | exact k1 | exact k2) (by first | exact hn | exact hm)).mono ?_; rintro e w' ⟨rfl, rfl⟩) | (go_at_call 95; refine (iCompare_v _ (by first | exact hx | exact hy)).mono ?_; rintro e w' ⟨rfl, rfl⟩) | (go_at_call 94; refine (iOr_v (by (repeat (first | (with_reducible assumption) | (with_reducible apply sameS) | ((with_reducible apply born); (focus (simp; done)); (focus rfl)) | (with_reducible apply keepA) | (with_reducible apply keepD) | ((with_reducible apply keepS); focus ((repeat (first | rw [World.size_alloc] | rw [World.size_setCell] | rw [World.size_drew])); omega)) | ((with_reducible apply keep); (focus (with_reducible assumption)))))) (by (repeat (first | (with_reducible assumption) | (with_reducible apply sameS) | ((with_reducible apply born); (focus (simp; done)); (focus rfl)) | (with_reducible apply keepA) | (with_reducible apply keepD) | ((with_reducible apply keepS); focus ((repeat (first | rw [World.size_alloc] | rw [World.size_setCell] | rw [World.size_drew])); omega)) | ((with_reducible apply keep); (focus (with_reducible assumption)))))) hz).mono ?_; rintro e w' ⟨rfl, rfl⟩)))
  all_goals go_wp2_with fail
  all_goals go_returns
  all_goals exact ⟨rfl, by (repeat' (first | (with_reducible exact Below.refl _ _) | (with_reducible refine Below.alloc ?_ ?_ _) | (with_reducible refine Below.drew ?_) | (with_reducible refine Below.setCell ?_ ?_ _) | (with_reducible refine Below.trans ?_ (Below.mono (by assumption) ?_)) | go_size))⟩
end Go.Proofs.Ytahnkecdningnaa

namespace Go.Proofs.Ytahnkecdningnaa
open Go Go.RowKit
attribute [local go_sem] World.cell?_alloc_some cell?_alloc2_some cell?_alloc3_some cell?_alloc4_some frozen?_alloc_some frozen?_alloc2_some frozen?_alloc3_some World.cell?_setCell_far new_ne0 new_ne1 new_ne2 new_ne3 lt2 lt3 lt4 lt5 lt6 lt7 lt8 lt9

/-- The cells of a list from a place of a block on. -/
def Ao (W : World) (g o : Nat) (l : List (Int × Int)) : Prop := ∀ j x y, l[j]? = some (x, y) → W.cell? ⟨g, o + j * 2, none⟩ = some (.int .i64 x) ∧ W.cell? ⟨g, o + j * 2 + 1, none⟩ = some (.int .i64 y)
/-- A list that is read, somewhere in a block below B. -/
def LO (B : Nat) (W : World) (v : Value) (l : List (Int × Int)) : Prop := ∃ a cap, v = .slice a l.length cap ∧ l.length ≤ cap ∧ cap ≤ maxLen ∧ ((a = none ∧ cap = 0) ∨ ∃ g o, a = some ⟨g, o, none⟩ ∧ g < B ∧ Ao W g o l)
theorem Ao.keep {K : Nat → Prop} {W W' : World} {g o : Nat} {l : List (Int × Int)} (h : Ao W g o l) (hk : Keep K W W') (hg : K g) : Ao W' g o l := fun j x y hj => ⟨hk.cell hg (h j x y hj).1, hk.cell hg (h j x y hj).2⟩
theorem LO.keep {B : Nat} {K : Nat → Prop} {W W' : World} {v : Value} {l : List (Int × Int)} (h : LO B W v l) (hk : Keep K W W') (hK : ∀ b, b < B → K b) : LO B W' v l := by
  obtain ⟨a, cap, e, h1, h2, h3⟩ := h
  refine ⟨a, cap, e, h1, h2, h3.imp_right ?_⟩
  rintro ⟨g, o, ea, hg, hA⟩
  exact ⟨g, o, ea, hg, hA.keep hk (hK g hg)⟩
theorem LO.below {B : Nat} {W W' : World} {v : Value} {l : List (Int × Int)} (h : LO B W v l) (hk : Below W.heap.size W W') : LO B W' v l := h.keep (Keep.of_below (fun _ => True) hk) (fun _ _ => trivial)
theorem GS.lo {W : World} {base : Nat} {v : Value} {l : List (Int × Int)} (h : GS W base v l) : LO W.heap.size W v l := by
  rcases id h.2 with ⟨rfl, h0⟩ | ⟨g, cap, cur, rfl, hb, hg, hn, hm, hs, ht⟩
  · exact ⟨none, 0, by rw [h0], by omega, by unfold maxLen; omega, .inl ⟨rfl, rfl⟩⟩
  · refine ⟨_, cap, rfl, hn, hm, .inr ⟨g, 0, rfl, ?_, fun j x y hj => ?_⟩⟩
    · exact (Array.getElem?_eq_some_iff.1 hg).1
    · have hlt : j < l.length := (List.getElem?_eq_some_iff.1 hj).1
      obtain ⟨e0, e1⟩ := gCells_at l j x y hj
      constructor
      · rw [World.ownsRow.cellAt h (0 + j * 2) (by omega), show 0 + j * 2 = 2 * j by omega]; exact e0
      · rw [World.ownsRow.cellAt h (0 + j * 2 + 1) (by omega), show 0 + j * 2 + 1 = 2 * j + 1 by omega]; exact e1
theorem LO.lr {B : Nat} {W : World} {v : Value} {l : List (Int × Int)} (h : LO B W v l) : ∃ a cap, v = .slice a l.length cap := by
  obtain ⟨a, cap, e, -⟩ := h; exact ⟨a, cap, e⟩
theorem gCells_take (l : List (Int × Int)) : ∀ n, gCells (l.take n) = (gCells l).take (n * 2) := by
  induction l with
  | nil => intro n; simp [gCells]
  | cons p t ih =>
    intro n
    cases n with
    | zero => simp [gCells]
    | succ n => rw [show (n + 1) * 2 = n * 2 + 1 + 1 by omega]; simp [gCells, ih]
theorem gCells_drop (l : List (Int × Int)) : ∀ n, gCells (l.drop n) = (gCells l).drop (n * 2) := by
  induction l with
  | nil => intro n; simp [gCells]
  | cons p t ih =>
    intro n
    cases n with
    | zero => simp
    | succ n => rw [show (n + 1) * 2 = n * 2 + 1 + 1 by omega]; simp [gCells, ih]
theorem Ao.cells {W : World} {g o : Nat} {l : List (Int × Int)} (h : Ao W g o l) : ∀ j u, (gCells l)[j]? = some u → W.cell? ((⟨g, o, none⟩ : Addr).add j) = some u := by
  intro j u hj
  have hadd : (⟨g, o, none⟩ : Addr).add j = ⟨g, o + j, none⟩ := by unfold Addr.add; split <;> simp_all
  have hlt : j < l.length * 2 := by rw [← gCells_len]; exact (List.getElem?_eq_some_iff.1 hj).1
  obtain ⟨⟨x, y⟩, hxy⟩ : ∃ q, l[j / 2]? = some q := ⟨_, List.getElem?_eq_getElem (by omega)⟩
  obtain ⟨c0, c1⟩ := h _ x y hxy
  obtain ⟨e0, e1⟩ := gCells_at l _ x y hxy
  rw [hadd]
  rcases Nat.mod_two_eq_zero_or_one j with hm | hm
  · rw [show 2 * (j / 2) = j by omega, hj] at e0
    rw [show o + j = o + j / 2 * 2 by omega, c0]
    exact e0.symm
  · rw [show 2 * (j / 2) + 1 = j by omega, hj] at e1
    rw [show o + j = o + j / 2 * 2 + 1 by omega, c1]
    exact e1.symm
theorem GS.some {w' : World} {base g cap n : Nat} {l : List (Int × Int)} (h : GS w' base (.slice (some ⟨g, 0, none⟩) n cap) l) : n = l.length := by
  obtain ⟨a, c, e, -⟩ := h.form
  injection e

/-- A list put behind another one, which owns its memory. -/
theorem run_appL (w : World) (ty : TypeId) (base : Nat) (v : Value) (l l2 : List (Int × Int)) (hown : GS w base v l) (B : Nat) (v2 : Value) (h2 : LO B w v2 l2) (hl : l.length + l2.length ≤ 8000000) (hbase : base ≤ w.heap.size) :
    ∃ v' w', (Builtin.append_ #[39, 39] ty #[v, v2]).run Try.prog w = .ok v' w' ∧ GS w' base v' (l ++ l2) ∧ w.grownBy w' v.ownBlock ∧ (v'.ownBlock = v.ownBlock ∨ v'.ownBlock = some w.heap.size) := by
  obtain ⟨i, hi, hz0, hz1, hz2⟩ := info_parts gauss_info
  obtain ⟨a, cap, rfl, h1, h3, h4⟩ := h2
  rcases h4 with ⟨rfl, rfl⟩ | ⟨g, o, rfl, hg, hA⟩
  · have h0 : l2 = [] := List.length_eq_zero_iff.1 (by omega)
    subst h0
    refine ⟨v, w, run_append_owned_none w base _ ty _ i 2 Try.underlying39 hi v l.length (gCells l) hown, by rw [List.append_nil]; exact hown, ⟨rfl, rfl, rfl, Nat.le_refl _, fun _ _ _ => rfl⟩, .inl rfl⟩
  · obtain ⟨v', w', hr, h5, h6, -, h7⟩ := run_append_own_at (P := Try.prog) w base 39 ty 24 i _ 2 16 Try.underlying39 hi hz0 hz1 hz2 rfl (by decide) v l.length (gCells l) hown ⟨g, o, none⟩ l2.length cap (gCells l2) (gCells_len l2) hA.cells (gCells_one l2) (by unfold maxLen; omega) (by omega) hbase
    refine ⟨v', w', hr, ?_, h6, h7⟩
    unfold GS
    rw [gCells_append, List.length_append]
    exact h5
theorem appLPl (w : World) {ops : Array Oper} {rest : List Oper} {o : Oper} {a : Act} {Q : Exit → Act → World → Prop}
    (hg : o.guard = none) (s x : Operand) (hop : o.op = Op.call { callee := Callee.builtin Builtin.append, args := #[s, x], argTypes := #[39, 39] })
    (base : Nat) (v : Value) (l l2 : List (Int × Int)) (hs : a.eval s = v) (hown : GS w base v l) (B : Nat) (v2 : Value) (hx : a.eval x = v2) (h2 : LO B w v2 l2) (hl : l.length + l2.length ≤ 8000000) (hbase : base ≤ w.heap.size)
    (hK : ∀ v' w', GS w' base v' (l ++ l2) → w.grownBy w' v.ownBlock → (v'.ownBlock = v.ownBlock ∨ v'.ownBlock = some w.heap.size) → wpList Try.prog ops Q rest (a.put o.dst v') w') :
    wpList Try.prog ops Q (o :: rest) a w := by
  refine wpList_plain hg fun K hK' => ?_
  obtain ⟨v', w', hrun, r1, r2, r3⟩ := run_appL w o.type base v l l2 hown B v2 h2 hl hbase
  unfold Oper.wp execOp
  simp only [hop, resolve, invoke, builtin, Sem.run_bind, Sem.run_pure, Result.andThen_ok, List.map_toArray, List.map_cons, List.map_nil, hs, hx, hrun]
  exact hK' _ _ (hK v' w' r1 r2 r3)
/-- The same at a step of a region that draws its order. -/
theorem appLStep (w : World) {ops : Array Oper} {o : Oper} {a : Act} {K : Act → World → Prop} {Q : Exit → Act → World → Prop} {E : Prop}
    (hg : o.guard = none) (s x : Operand) (hop : o.op = Op.call { callee := Callee.builtin Builtin.append, args := #[s, x], argTypes := #[39, 39] })
    (base : Nat) (v : Value) (l l2 : List (Int × Int)) (hs : a.eval s = v) (hown : GS w base v l) (B : Nat) (v2 : Value) (hx : a.eval x = v2) (h2 : LO B w v2 l2) (hl : l.length + l2.length ≤ 8000000) (hbase : base ≤ w.heap.size)
    (hK : ∀ v' w', GS w' base v' (l ++ l2) → w.grownBy w' v.ownBlock → (v'.ownBlock = v.ownBlock ∨ v'.ownBlock = some w.heap.size) → K (a.put o.dst v') w') :
    if Region.wanted o (yielded ops a.tmps) = true then Oper.wp Try.prog o a w K Q else E := by
  have hw : Region.wanted o (yielded ops a.tmps) = true := by simp [Region.wanted, hg]
  rw [if_pos hw]
  obtain ⟨v', w', hrun, r1, r2, r3⟩ := run_appL w o.type base v l l2 hown B v2 h2 hl hbase
  unfold Oper.wp execOp
  simp only [hop, resolve, invoke, builtin, Sem.run_bind, Sem.run_pure, Result.andThen_ok, List.map_toArray, List.map_cons, List.map_nil, hs, hx, hrun]
  exact hK v' w' r1 r2 r3
/-- A list without its head. -/
theorem LO.tail {B : Nat} {W : World} {v : Value} {p : Int × Int} {l : List (Int × Int)} (h : LO B W v (p :: l)) :
    ∃ g o cap v', v = .slice (some ⟨g, o, none⟩) (l.length + 1) cap ∧ l.length + 1 ≤ cap ∧ g < B ∧ W.cell? ⟨g, o, none⟩ = some (.int .i64 p.1) ∧ W.cell? ⟨g, o + 1, none⟩ = some (.int .i64 p.2) ∧
      (∀ W', (Instr.slice 39 (.slice (some ⟨g, o, none⟩) (l.length + 1) cap) (some (.int .i64 1)) none none).run Try.prog W' = .ok v' W') ∧ LO B W v' l := by
  obtain ⟨a, cap, rfl, h1, h2, ⟨rfl, rfl⟩ | ⟨g, o, rfl, hg, hA⟩⟩ := h
  · simp at h1
  · obtain ⟨i, hi, -, hz1, -⟩ := info_parts gauss_info
    obtain ⟨c0, c1⟩ := hA 0 p.1 p.2 rfl
    rw [List.length_cons] at h1
    have hsz : ∀ W', (sizeOf 24).run Try.prog W' = .ok 2 W' := fun W' => by simp [sizeOf, typeInfo, hi, hz1]
    have hel : Try.prog.elem 39 = 24 := by kernel_rfl
    have hun : Try.prog.underlying 39 = some (.slice (Try.prog.elem 39)) := by rw [hel]; exact Try.underlying39
    have hsl : ∀ W', (Instr.slice 39 (.slice (some ⟨g, o, none⟩) (l.length + 1) cap) (some (.int .i64 1)) none none).run Try.prog W' = .ok (sliced (some ⟨g, o, none⟩) 1 (l.length + 1) cap 2) W' := fun W' => by
      rw [run_slice_l (P := Try.prog) W' 39 _ _ _ hun .i64 1 (by omega) (by simp; omega)]
      rw [hel, hsz]
      rfl
    refine ⟨g, o, cap, _, rfl, h1, hg, c0, c1, hsl, ?_⟩
    unfold sliced
    by_cases hc : cap = 1
    · have h0 : l = [] := List.length_eq_zero_iff.1 (by omega)
      subst h0
      refine ⟨_, cap - 1, rfl, by simp, by omega, .inr ⟨g, o, by rw [if_pos hc], hg, fun j x y hj => by simp at hj⟩⟩
    · refine ⟨_, cap - 1, rfl, by omega, by omega, .inr ⟨g, o + 2, by rw [if_neg hc]; rfl, hg, fun j x y hj => ?_⟩⟩
      obtain ⟨d0, d1⟩ := hA (j + 1) x y (by simpa using hj)
      exact ⟨by rw [show o + 2 + j * 2 = o + (j + 1) * 2 by omega]; exact d0, by rw [show o + 2 + j * 2 + 1 = o + (j + 1) * 2 + 1 by omega]; exact d1⟩
end Go.Proofs.Ytahnkecdningnaa

namespace Go.Proofs.Ytahnkecdningnaa
open Go Go.RowKit
attribute [local go_sem] World.cell?_alloc_some cell?_alloc2_some cell?_alloc3_some cell?_alloc4_some frozen?_alloc_some frozen?_alloc2_some frozen?_alloc3_some World.cell?_setCell_far new_ne0 new_ne1 new_ne2 new_ne3 lt2 lt3 lt4 lt5 lt6 lt7 lt8 lt9

theorem GS.alloc {W : World} {base : Nat} {v : Value} {l : List (Int × Int)} (h : GS W base v l) (o : Obj) : GS (W.alloc o) base v l := World.ownsRow.alloc h o
theorem GS.drew {W : World} {base : Nat} {v : Value} {l : List (Int × Int)} (h : GS W base v l) : GS W.drew base v l := h
theorem LO.drew {B : Nat} {W : World} {v : Value} {l : List (Int × Int)} (h : LO B W v l) : LO B W.drew v l := h
theorem lo_new {W : World} {X : Nat} {x y : Int} (hX : X = W.heap.size) : LO (X + 1) (W.alloc (.cells #[.int .i64 x, .int .i64 y] 24)) (.slice (some ⟨X, 0, none⟩) 1 1) [(x, y)] := by
  refine ⟨_, 1, rfl, by simp, by unfold maxLen; omega, .inr ⟨X, 0, rfl, by omega, fun j a b hj => ?_⟩⟩
  cases j with
  | zero =>
    obtain ⟨rfl, rfl⟩ : x = a ∧ y = b := by simpa using hj
    exact ⟨born (l := [.int .i64 x, .int .i64 y]) hX rfl, born (l := [.int .i64 x, .int .i64 y]) hX rfl⟩
  | succ j => simp at hj
/-- How long a slice is. -/
def lnV : Value → Nat
  | .slice _ n _ => n
  | _ => 0
theorem lnS (a : Option Addr) (n c : Nat) : lnV (.slice a n c) = n := rfl
theorem LO.ln {B : Nat} {W : World} {v : Value} {l : List (Int × Int)} (h : LO B W v l) : lnV v = l.length := by
  obtain ⟨a, cap, rfl⟩ := h.lr; rfl
/-- Between two rounds of putting two lists together. -/
structure Mr (w : World) (B : Nat) (R : List (Int × Int)) (v0 v1 v7 : Value) (l k dn : List (Int × Int)) (wr : World) : Prop where
  a : LO B wr v0 l
  b : LO B wr v1 k
  g : GS wr w.heap.size v7 dn
  r : dn ++ mg (l.length + k.length) l k = R
  n : dn.length + l.length + k.length ≤ 100
  o : Below w.heap.size w wr
theorem Mr.below {w : World} {B : Nat} {R : List (Int × Int)} {v0 v1 v7 : Value} {l k dn : List (Int × Int)} {wr wx : World} (h : Mr w B R v0 v1 v7 l k dn wr) (hb : Below wr.heap.size wr wx) : Mr w B R v0 v1 v7 l k dn wx :=
  ⟨h.a.below hb, h.b.below hb, h.g.below hb, h.r, h.n, h.o.trans (hb.mono h.o.size)⟩
theorem Mr.app {w : World} {B : Nat} {R : List (Int × Int)} {v0 v1 v7 v7' : Value} {l k dn dn' : List (Int × Int)} {wr wx : World} (h : Mr w B R v0 v1 v7 l k dn wr) (hB : B ≤ w.heap.size) (_hg : GS wx w.heap.size v7' dn') (hk : wr.grownBy wx v7.ownBlock) :
    LO B wx v0 l ∧ LO B wx v1 k ∧ Below w.heap.size w wx := by
  have hk' := grown_keep hk
  refine ⟨h.a.keep hk' (fun b hb => h.g.ne (by omega)), h.b.keep hk' (fun b hb => h.g.ne (by omega)), h.o.trans (hk'.below (fun b hb => h.g.ne (by omega)) h.o.size)⟩

theorem below_grown {w w' : World} (h : w.grownBy w' none) : Below w.heap.size w w' := (grown_keep h).below (fun b hb => by simp) (Nat.le_refl _)
set_option maxRecDepth 100000 in
set_option maxHeartbeats 16000000 in
theorem iMerged (l k : List (Int × Int)) (v1 v2 : Value) (B : Nat) (w : World) (h1 : LO B w v1 l) (h2 : LO B w v2 k) (hB : B ≤ w.heap.size) (gl : ∀ p ∈ l, gok p.1 p.2 = true) (gk : ∀ p ∈ k, gok p.1 p.2 = true) (hn : l.length + k.length ≤ 100) :
    Calls Try.prog 69 #[v1, v2, .func (.func 70) #[] #[]] w fun e w' => ∃ v, e = .returned v ∧ GS w' w.heap.size v (mg (l.length + k.length) l k) ∧ Below w.heap.size w w' := by
  obtain ⟨i, hi, hz0, hz1, hz2⟩ := info_parts gauss_info
  obtain ⟨a1, cap1, rfl⟩ := h1.lr
  obtain ⟨a2, cap2, rfl⟩ := h2.lr
  obtain ⟨R, hR⟩ : ∃ R, mg (l.length + k.length) l k = R := ⟨_, rfl⟩
  rw [hR]
  go_enter Try.func69, Try.ntmps69
  go_wp2_with (at_make; refine wpList_make_own _ rfl _ _ 39 rfl w.heap.size 24 i _ 2 Try.underlying39 hi hz0 hz1 _ _ _ (l.length + k.length) rfl rfl (by simp) (by rw [hz2]; omega) (by unfold maxLen; omega) (Nat.le_refl _) ?_; intro w1 hown hgr)
  have hb1 := below_grown hgr
  have hm1 : Mr w B R (.slice a1 l.length cap1) (.slice a2 k.length cap2) (.slice (some ⟨w.heap.size, 0, none⟩) 0 (l.length + k.length)) l k [] w1 := ⟨h1.below hb1, h2.below hb1, hown, hR, by simpa using hn, hb1⟩
  clear hown hgr hb1 h1 h2 hR hn
  go_loopw [0, 1, 7] (fun v0 v1 v7 wr => ∃ l k dn, Mr w B R v0 v1 v7 l k dn wr ∧ (∀ p ∈ l, gok p.1 p.2 = true) ∧ (∀ p ∈ k, gok p.1 p.2 = true)) (fun v0 v1 _ _ => lnV v0 + lnV v1)
  case atStart => exact ⟨l, k, [], hm1, gl, gk⟩
  case round =>
    clear hm1 gl gk
    obtain ⟨l, k, dn, hm, gl, gk⟩ := hrel
    have hle : w.heap.size ≤ wr.heap.size := hm.o.size
    cases l with
    | nil =>
      obtain ⟨a1', cap1', rfl⟩ := hm.a.lr
      obtain ⟨a2', cap2', rfl⟩ := hm.b.lr
      obtain ⟨hA, hB2, hG, hr, hn, ho⟩ := hm
      go_wp2_with (at_builtin; first | (refine appLPl _ rfl _ _ rfl w.heap.size _ dn [] rfl hG B _ rfl hA (by simp at hn ⊢; omega) hle ?_; intro v8 w2 hg2 hgr2 hat2; have hk2 := grown_keep hgr2; have hB3 := hB2.keep hk2 (fun b hb => hG.ne (by omega)); have ho2 := ho.trans (hk2.below (fun b hb => hG.ne (by omega)) ho.size); have hs2 := hk2.size) | (refine appLPl _ rfl _ _ rfl w.heap.size _ (dn ++ []) k rfl hg2 B _ rfl hB3 (by simp at hn ⊢; omega) (by omega) ?_; intro v9 w3 hg3 hgr3 hat3; have ho3 := ho2.trans ((grown_keep hgr3).below (fun b hb => hg2.ne (by omega)) ho2.size)))
      go_returns
      refine ⟨_, rfl, ?_, ho3⟩
      have e : dn ++ [] ++ k = R := by rw [← hr, List.append_nil]; cases k <;> rfl
      rw [← e]; exact hg3
    | cons p l =>
      cases k with
      | nil =>
        obtain ⟨a1', cap1', rfl⟩ := hm.a.lr
        obtain ⟨a2', cap2', rfl⟩ := hm.b.lr
        obtain ⟨hA, hB2, hG, hr, hn, ho⟩ := hm
        have hd : decide ((0 : Int) < ((p :: l).length : Int)) = true := decide_eq_true (by have : 0 < (p :: l).length := (by simp); omega)
        have x1 : dn.length + (p :: l).length ≤ 8000000 := by omega
        have x2 : (dn ++ (p :: l)).length + ([] : List (Int × Int)).length ≤ 8000000 := by rw [List.length_append]; simp only [List.length_nil]; omega
        have e : dn ++ (p :: l) ++ [] = R := by rw [← hr, List.append_nil]; simp [mg]
        obtain ⟨L, hL⟩ : ∃ L, p :: l = L := ⟨_, rfl⟩
        rw [hL] at hd hA hn x1 x2 e ⊢
        obtain ⟨n, hnl⟩ : ∃ n, L.length = n := ⟨_, rfl⟩
        rw [hnl] at hd hA ⊢
        simp only [List.length_nil] at hB2 ⊢
        have X1 := Lib.hid x1
        have X2 := Lib.hid x2
        have E := Lib.hid e
        have hn0 : 0 < n := by have := of_decide_eq_true hd; omega
        clear hr gl gk hL x1 x2 e hn hnl hd
        go_wp2_with (at_builtin; first | (refine appLPl _ rfl _ _ rfl w.heap.size _ dn L rfl hG B _ rfl hA X1.out hle ?_; intro v8 w2 hg2 hgr2 hat2; have hk2 := grown_keep hgr2; have hB3 := hB2.keep hk2 (fun b hb => hG.ne (by omega)); have ho2 := ho.trans (hk2.below (fun b hb => hG.ne (by omega)) ho.size); have hs2 := hk2.size) | (refine appLPl _ rfl _ _ rfl w.heap.size _ (dn ++ L) [] rfl hg2 B _ rfl hB3 X2.out (by omega) ?_; intro v9 w3 hg3 hgr3 hat3; have ho3 := ho2.trans ((grown_keep hgr3).below (fun b hb => hg2.ne (by omega)) ho2.size)))
        go_returns
        refine ⟨_, rfl, ?_, ho3⟩
        rw [← E.out]; exact hg3
      | cons q k =>
        obtain ⟨g, o, cap, v0', rfl, hc1, hgB, c0, c1, hsl, hT⟩ := hm.a.tail
        obtain ⟨g', o', cap', v1', rfl, hc1', hgB', c0', c1', hsl', hT'⟩ := hm.b.tail
        have kp := gl p (List.mem_cons_self ..)
        have kq := gk q (List.mem_cons_self ..)
        have hd : decide ((0 : Int) < (l.length : Int) + 1) = true := decide_eq_true (by omega)
        have hd' : decide ((0 : Int) < (k.length : Int) + 1) = true := decide_eq_true (by omega)
        obtain ⟨x, y⟩ := p
        obtain ⟨z, t⟩ := q
        dsimp only at c0 c1 c0' c1' kp kq
        obtain ⟨b, hb⟩ : ∃ b, bnI (x, y) (z, t) = b := ⟨_, rfl⟩
        have hbl := bn_le (x, y) (z, t)
        rw [hb] at hbl
        have hC : ∀ W, Calls Try.prog 70 #[.agg #[.int .i64 x, .int .i64 y], .agg #[.int .i64 z, .int .i64 t]] W fun e w' => e = .returned (.int .i64 b) ∧ Below W.heap.size W w' := fun W => by rw [← hb]; exact iByNorms x y z t W kp kq
        clear hb
        go_upto_region 3 with fail
        refine wp_name ?_
        intro w6 hb6
        have hm6 := hm.below hb6
        have hT6 := hT.below hb6
        have hT6' := hT'.below hb6
        have d0 := keep hb6 c0
        have d1 := keep hb6 c1
        have d0' := keep hb6 c0'
        have d1' := keep hb6 c1'
        have r0 := cell_regrown d0
        have r1 := cell_regrown d1
        have r0' := cell_regrown d0'
        have r1' := cell_regrown d1'
        clear c0 c1 c0' c1' hm hT hT'
        refine wp_region_quiet_below (by kernel_rfl) (by kernel_rfl) ?_
        (repeat (first | go_big_quiet_step ((first | (go_at_call 70; exact Calls.regrown_of (hC _)))) | quiet_step ((first | (go_at_call 70; exact Calls.regrown_of (hC _))))))
        refine wpQuiet_nil ?_
        intro w7 hw
        have hb7 := below_of_regrown hw
        clear hw
        have hm7 := hm6.below hb7
        have hT7 := hT6.below hb7
        have hT7' := hT6'.below hb7
        have e0 := keep hb7 d0
        have e1 := keep hb7 d1
        have e0' := keep hb7 d0'
        have e1' := keep hb7 d1'
        clear d0 d1 d0' d1' r0 r1 r0' r1' hm6 hT6 hT6' hC hb7 hb6 hle
        have hle7 := hm7.o.size
        have hn7 := hm7.n
        have hr7 := hm7.r
        simp only [List.length_cons] at hn7
        have hg7 := hm7.g
        cases ho : leB6 (x, y) (z, t)
        · have hr2 : dn ++ [(z, t)] ++ mg (((x, y) :: l).length + k.length) ((x, y) :: l) k = R := by
            rw [← hr7, show ((x, y) :: l).length + ((z, t) :: k).length = ((x, y) :: l).length + k.length + 1 by simp only [List.length_cons]; omega, mg, ho, if_neg (by simp), List.append_assoc]; rfl
          have x1 : dn.length + [(z, t)].length ≤ 8000000 := by simp only [List.length_cons, List.length_nil]; omega
          have x3 : (dn ++ [(z, t)]).length + ((x, y) :: l).length + k.length ≤ 100 := by simp only [List.length_append, List.length_cons, List.length_nil]; omega
          have hmA := hm7.below (wx := w7.drew.alloc (.cells #[.int .i64 z, .int .i64 t] 24)) (by (repeat' (first | (with_reducible exact Below.refl _ _) | (with_reducible refine Below.alloc ?_ ?_ _) | (with_reducible refine Below.drew ?_) | (with_reducible refine Below.setCell ?_ ?_ _) | (with_reducible refine Below.trans ?_ (Below.mono (by assumption) ?_)) | go_size)))
          have hTA := hT7'.below (W' := w7.drew.alloc (.cells #[.int .i64 z, .int .i64 t] 24)) (by (repeat' (first | (with_reducible exact Below.refl _ _) | (with_reducible refine Below.alloc ?_ ?_ _) | (with_reducible refine Below.drew ?_) | (with_reducible refine Below.setCell ?_ ?_ _) | (with_reducible refine Below.trans ?_ (Below.mono (by assumption) ?_)) | go_size)))
          have gk' : ∀ p ∈ k, gok p.1 p.2 = true := fun p hp => gk p (List.mem_cons_of_mem _ hp)
          have HR := Lib.hid hr2
          have Hln := Lib.hid hT7'.ln
          clear hr2 hr7 hm7 hT7 hT7' hn7 gk
          rw [ho] at hbl
          clear ho
          go_wp2_with fail
          go_region_law (refine appLStep _ rfl _ _ rfl w.heap.size _ dn [(z, t)] rfl (GS.alloc (GS.drew hg7) _) (w7.heap.size + 1) _ rfl (lo_new rfl) x1 (by simp; omega) ?_; intro v8 w8 hg8 hgr8 hat8)
          all_goals
            obtain ⟨q1, -, q3⟩ := hmA.app hB hg8 hgr8
            have q2 := hTA.keep (grown_keep hgr8) (fun b hb => hmA.g.ne (by omega))
            go_wp2_with fail
            go_simp
            exact ⟨⟨_, _, _, ⟨(x, y) :: l, k, ⟨_, q1, q2, hg8, HR.out, x3, q3⟩, fun a b h => gl _ h, fun a b h => gk' _ h⟩, rfl, rfl, rfl⟩, by rw [Hln.out, lnS]; omega⟩
        · have hr2 : dn ++ [(x, y)] ++ mg (l.length + ((z, t) :: k).length) l ((z, t) :: k) = R := by
            rw [← hr7, show ((x, y) :: l).length + ((z, t) :: k).length = l.length + ((z, t) :: k).length + 1 by simp only [List.length_cons]; omega, mg, ho, if_pos rfl, List.append_assoc]; rfl
          have x1 : dn.length + [(x, y)].length ≤ 8000000 := by simp only [List.length_cons, List.length_nil]; omega
          have x3 : (dn ++ [(x, y)]).length + l.length + ((z, t) :: k).length ≤ 100 := by simp only [List.length_append, List.length_cons, List.length_nil]; omega
          have hmA := hm7.below (wx := w7.drew.alloc (.cells #[.int .i64 x, .int .i64 y] 24)) (by (repeat' (first | (with_reducible exact Below.refl _ _) | (with_reducible refine Below.alloc ?_ ?_ _) | (with_reducible refine Below.drew ?_) | (with_reducible refine Below.setCell ?_ ?_ _) | (with_reducible refine Below.trans ?_ (Below.mono (by assumption) ?_)) | go_size)))
          have hTA := hT7.below (W' := w7.drew.alloc (.cells #[.int .i64 x, .int .i64 y] 24)) (by (repeat' (first | (with_reducible exact Below.refl _ _) | (with_reducible refine Below.alloc ?_ ?_ _) | (with_reducible refine Below.drew ?_) | (with_reducible refine Below.setCell ?_ ?_ _) | (with_reducible refine Below.trans ?_ (Below.mono (by assumption) ?_)) | go_size)))
          have gl' : ∀ p ∈ l, gok p.1 p.2 = true := fun p hp => gl p (List.mem_cons_of_mem _ hp)
          have HR := Lib.hid hr2
          have Hln := Lib.hid hT7.ln
          clear hr2 hr7 hm7 hT7 hT7' hn7 gl
          rw [ho] at hbl
          clear ho
          go_wp2_with fail
          go_region_law (refine appLStep _ rfl _ _ rfl w.heap.size _ dn [(x, y)] rfl (GS.alloc (GS.drew hg7) _) (w7.heap.size + 1) _ rfl (lo_new rfl) x1 (by simp; omega) ?_; intro v8 w8 hg8 hgr8 hat8)
          all_goals
            obtain ⟨-, q1, q3⟩ := hmA.app hB hg8 hgr8
            have q2 := hTA.keep (grown_keep hgr8) (fun b hb => hmA.g.ne (by omega))
            go_wp2_with fail
            go_simp
            exact ⟨⟨_, _, _, ⟨l, (z, t) :: k, ⟨_, q2, q1, hg8, HR.out, x3, q3⟩, fun a b h => gl' _ h, fun a b h => gk _ h⟩, rfl, rfl, rfl⟩, by rw [Hln.out, lnS]; omega⟩
end Go.Proofs.Ytahnkecdningnaa
