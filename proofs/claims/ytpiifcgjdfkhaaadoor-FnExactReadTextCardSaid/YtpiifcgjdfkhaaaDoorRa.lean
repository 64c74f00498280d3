import Derived.Test.YtpiifcgjdfkhaaaDoorTa
import Derived.Test.YtpiifcgjdfkhaaaDoorRunes
import Derived.Laws.Runes
import Derived.WalkSpells
import Derived.WalkLawsBesides
import Derived.BigQuiet
namespace Go.Proofs.YtpiifcgjdfkhaaaDoor
open Go Go.RowKit
attribute [local go_sem] World.cell?_alloc_some cell?_alloc2_some cell?_alloc3_some cell?_alloc4_some frozen?_alloc_some frozen?_alloc2_some frozen?_alloc3_some World.cell?_setCell_far new_ne0 new_ne1 new_ne2 new_ne3 lt2 lt3 lt4 lt5 lt6 lt7 lt8 lt9

theorem ib_ret {i : Nat} {Q : Exit → Act → World → Prop} {a : Act} {w : World} : Exit.inBlock i Q .ret a w = Q .ret a w := rfl
theorem th_ret {N : Act → World → Prop} {Q : Exit → Act → World → Prop} {a : Act} {w : World} : Exit.then N Q .ret a w = Q .ret a w := rfl
theorem indexByte (s : ByteArray) (c : Int) (w : World) : Calls Tryd.prog 60 #[.string s, .int .u8 c] w fun e w' => e = .returned (.int .i64 (Lib.indexByte s.data.toList c.toNat.toUInt8)) ∧ Below w.heap.size w w' :=
  (Tryd.strings_IndexByte s c w).mono fun e w' ⟨h1, h2⟩ => ⟨h1, by rw [h2]; exact Below.refl _ _⟩
def pmAt (r : Int) : Int := if r = 43 then 0 else if r = 45 then 1 else -1

set_option maxRecDepth 100000 in
set_option maxHeartbeats 1000000 in
theorem indexRune_pm (r : Int) (w : World) (h0 : 0 ≤ r) (h1 : r ≤ 1114111) :
    Calls Tryd.prog 39 #[.string ⟨#[43, 45]⟩, .int .i32 r] w fun e w' => (∃ k : Int, e = .returned (.int .i64 k) ∧ (r < 128 → k = pmAt r)) ∧ Below w.heap.size w w' := by
  by_cases ha : r < 128
  · refine (Tryd.strings_IndexRune_ascii ⟨#[43, 45]⟩ r w h0 ha).mono ?_
    rintro e w' ⟨rfl, rfl⟩
    refine ⟨⟨_, rfl, fun _ => ?_⟩, Below.refl _ _⟩
    have hk : ∀ n : Nat, n < 128 → Lib.indexByte [43, 45] n.toUInt8 = pmAt (n : Int) := by decide
    have := hk r.toNat (by omega)
    rwa [Int.toNat_of_nonneg h0] at this
  have hn128 : decide (r < 128) = false := by simp; omega
  by_cases he : r = 65533
  · subst he
    have n0 : (Instr.next (.pointer (some ⟨w.heap.size, 0, none⟩)) true 0).run Tryd.prog (w.iter ⟨#[43, 45]⟩ 0) = .ok (.tuple #[.bool true, .int .i64 0, .int .i32 43]) (w.iter ⟨#[43, 45]⟩ 1) := run_next_ascii w ⟨#[43, 45]⟩ 0 0 (by decide) (by decide)
    have n1 : (Instr.next (.pointer (some ⟨w.heap.size, 0, none⟩)) true 0).run Tryd.prog (w.iter ⟨#[43, 45]⟩ 1) = .ok (.tuple #[.bool true, .int .i64 1, .int .i32 45]) (w.iter ⟨#[43, 45]⟩ 2) := run_next_ascii w ⟨#[43, 45]⟩ 1 0 (by decide) (by decide)
    have n2 := run_next_end (P := Tryd.prog) w ⟨#[43, 45]⟩ 2 0 (by decide)
    go_enter Tryd.func39, Tryd.ntmps39
    go_wp2_with fail
    refine wp_loop_rounds 3 ?_
    rw [rounds_succ]
    go_wp2_with fail
    rw [rounds_succ]
    go_wp2_with fail
    rw [rounds_succ]
    go_wp2_with fail
    go_returns
    exact ⟨⟨_, rfl, fun h => absurd h (by omega)⟩, (Below.refl _ _).alloc (Nat.le_refl _) _⟩
  have he2 : (r == 65533) = false := by simp; omega
  cases hv : Lib.validRune r
  · go_enter Tryd.func39, Tryd.ntmps39
    go_wp2_with fail
    refine (Tryd.utf8_ValidRune _ _).mono ?_
    rintro e w' ⟨rfl, rfl⟩
    go_wp2_with fail
    go_returns
    exact ⟨⟨_, rfl, fun h => absurd h (by omega)⟩, by (repeat' (first | (with_reducible exact Below.refl _ _) | (with_reducible refine Below.alloc ?_ ?_ _) | (with_reducible refine Below.drew ?_) | (with_reducible refine Below.setCell ?_ ?_ _) | (with_reducible refine Below.trans ?_ (Below.mono (by assumption) ?_)) | go_size))⟩
  · go_enter Tryd.func39, Tryd.ntmps39
    go_wp2_with fail
    refine (Tryd.utf8_ValidRune _ _).mono ?_
    rintro e w' ⟨rfl, rfl⟩
    have hvv : Utf8.valid r = true := by
      simp only [Lib.validRune, decide_eq_true_eq] at hv
      simp only [Utf8.valid, Bool.or_eq_true, Bool.and_eq_true, decide_eq_true_eq]
      omega
    obtain ⟨z1, z2, z3⟩ := encode_facts r hvv ha
    have z5 : ((Utf8.encode r).size : Int) - 1 ≤ 3 := by omega
    by_cases z4 : (Utf8.encode r).size = 2
    · go_wp2_with fail
      go_step3
      go_wp2_with fail
      generalize Utf8.encode r = S at *
      obtain ⟨x, y, rfl⟩ : ∃ x y, S = ⟨#[x, y]⟩ := by
        obtain ⟨⟨l⟩⟩ := S
        match l, z4 with
        | [x, y], _ => exact ⟨x, y, rfl⟩
      have hy : 128 ≤ y.toNat := z3 (by show 1 < 2; omega)
      have hy1 : ((45 : Int) == (y.toNat : Int)) = false := by simp; omega
      have hy2 : ((45 : Int) != (y.toNat : Int)) = true := by simp; omega
      have hs1 : ∀ h : 1 < (ByteArray.mk #[43, 45]).size, (ByteArray.mk #[43, 45])[1]'h = 45 := fun _ => rfl
      have hs2 : ∀ h : 1 < (ByteArray.mk #[x, y]).size, (ByteArray.mk #[x, y])[1]'h = y := fun _ => rfl
      have hw2 : IntKind.i64.wrap 2 = 2 := IntWalk.i64_in _ (by omega)
      clear z1 z2 z3 z4 z5
      refine wp_loop_rounds 1 ?_
      rw [rounds_succ]
      go_wp2_with fail
      go_step3
      go_wp2_with fail
      go_quiet (fail)
      go_wp2_with fail
      (refine wp_name ?_; intro w2 hb2; have hz2 := hb2.size; (repeat (first | rw [World.size_alloc] at hz2 | rw [World.size_setCell] at hz2 | rw [World.size_drew] at hz2)); refine wp_region_quiet_below (by kernel_rfl) (by kernel_rfl) ?_; (repeat (first | go_big_quiet_step ((first | (go_at_call 60; exact Calls.regrown_of (indexByte _ _ _)))) | quiet_step ((first | (go_at_call 60; exact Calls.regrown_of (indexByte _ _ _)))))); refine wpQuiet_nil ?_; intro w3 hw; have hb3 := below_of_regrown hw; clear hw; have hz3 := hb3.size)
      go_wp2_with fail
      simp only [Exit.noGoto_ret, ib_ret, th_ret]
      go_returns
      have hz2' : w'.heap.size ≤ w2.heap.size := hz2
      have hd : Below w'.heap.size w' (w'.drewN nq) := ⟨rfl, rfl, rfl, Nat.le_refl _, fun _ _ => rfl⟩
      have hb2' : Below w'.heap.size w' w2 := hd.trans hb2
      refine ⟨⟨_, rfl, fun h => absurd h (by omega)⟩, ?_⟩
      exact hb2'.trans (hb3.mono hz2')
    · have z6 : 3 ≤ (Utf8.encode r).size := by omega
      go_wp2_with fail
      go_step3
      go_wp2_with fail
      refine wp_loop_rounds 1 ?_
      rw [rounds_succ]
      go_wp2_with fail
      rw [Exit.noGoto_ret]
      go_returns
      exact ⟨⟨_, rfl, fun h => absurd h (by omega)⟩, by (repeat' (first | (with_reducible exact Below.refl _ _) | (with_reducible refine Below.alloc ?_ ?_ _) | (with_reducible refine Below.drew ?_) | (with_reducible refine Below.setCell ?_ ?_ _) | (with_reducible refine Below.trans ?_ (Below.mono (by assumption) ?_)) | go_size))⟩
end Go.Proofs.YtpiifcgjdfkhaaaDoor
