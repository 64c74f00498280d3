import Derived.Test.YtpiifcgjdfkhaaaDoorTb
import Derived.Test.YtpiifcgjdfkhaaaDoorItoa
namespace Go.Proofs.YtpiifcgjdfkhaaaDoor
open Go Go.RowKit
attribute [local go_sem] World.cell?_alloc_some cell?_alloc2_some cell?_alloc3_some cell?_alloc4_some frozen?_alloc_some frozen?_alloc2_some frozen?_alloc3_some World.cell?_setCell_far new_ne0 new_ne1 new_ne2 new_ne3 lt2 lt3 lt4 lt5 lt6 lt7 lt8 lt9

/-- The library's table lies where the program's text lays it. -/
def Tab (w : World) : Prop := Lib.TabIs Tryd.prog w "internal/strconv.uint64pow10" .u64 Lib.pow10Tab
theorem var_below {P : Program} {W w1 : World} {nm : String} {cs : Array Value} (hb : Below W.heap.size W w1) (h : W.var? P nm = some cs) : w1.var? P nm = some cs := by
  unfold World.var? at h ⊢
  cases hg : P.globalNamed nm with
  | none => simp [hg] at h
  | some g =>
    simp only [hg, Option.bind_some] at h ⊢
    have hlt : g < W.heap.size := by
      rcases Nat.lt_or_ge g W.heap.size with h' | h'
      · exact h'
      · simp [Array.getElem?_eq_none h'] at h
    rw [hb.block g hlt]
    exact h
theorem Tab.below {W w1 : World} (hb : Below W.heap.size W w1) (h : Tab W) : Tab w1 := var_below hb h
theorem Tab.alloc {w : World} {o : Obj} (h : Tab w) : Tab (w.alloc o) := h.below ((Below.refl _ _).alloc (Nat.le_refl _) o)
theorem Tab.drew {w : World} (h : Tab w) : Tab w.drew := h.below (Below.refl _ _).drew
theorem itoa (n : Int) (w : World) (h1 : -1000 ≤ n) (h2 : n ≤ 1000) (ht : Tab w) :
    Calls Tryd.prog 19 #[.int .i64 n] w fun e w' => e = .returned (.string ⟨(Lib.itoa n).toArray⟩) ∧ Below w.heap.size w w' := by
  refine (Tryd.strconv_Itoa n (by omega) (by omega) w ht).mono ?_
  rintro e w' ⟨rfl, k, os, rfl⟩
  exact ⟨rfl, ⟨rfl, rfl, rfl, by simp [World.drewN], fun k hk => by simp [Go.Sort.grow, World.drewN, Array.getElem?_append, hk]⟩⟩
set_option maxRecDepth 100000 in
theorem timesText (n : Int) (w : World) (h1 : -1000 ≤ n) (h2 : n ≤ 1000) (ht : Tab w) :
    Calls Tryd.prog 20 #[.int .i64 n] w fun e w' => e = .returned (.string ⟨(iTxt n).toArray⟩) ∧ Below w.heap.size w w' := by
  by_cases e1 : n = 1
  · subst e1
    go_enter Tryd.func20, Tryd.ntmps20
    go_wp2_with fail
    go_returns
    exact ⟨rfl, by (repeat' (first | (with_reducible exact Below.refl _ _) | (with_reducible refine Below.alloc ?_ ?_ _) | (with_reducible refine Below.drew ?_) | (with_reducible refine Below.setCell ?_ ?_ _) | (with_reducible refine Below.trans ?_ (Below.mono (by assumption) ?_)) | go_size))⟩
  by_cases e2 : n = -1
  · subst e2
    go_enter Tryd.func20, Tryd.ntmps20
    go_wp2_with fail
    go_returns
    exact ⟨rfl, by (repeat' (first | (with_reducible exact Below.refl _ _) | (with_reducible refine Below.alloc ?_ ?_ _) | (with_reducible refine Below.drew ?_) | (with_reducible refine Below.setCell ?_ ?_ _) | (with_reducible refine Below.trans ?_ (Below.mono (by assumption) ?_)) | go_size))⟩
  have hl := itoa_len h1 h2
  have hno : ¬ (9223372036854775807 < (Lib.itoa n).length + 1) := by omega
  have b1 : (n == 1) = false := by simp; omega
  have b2 : (n == -1) = false := by simp; omega
  have hv : iTxt n = Lib.itoa n ++ [105] := by unfold iTxt; rw [if_neg e1, if_neg e2]
  have HV := Lib.hid hv
  have HT := Lib.hid ht
  clear hv ht e1 e2
  go_enter Tryd.func20, Tryd.ntmps20
  go_wp2_with fail
  (refine (itoa _ _ h1 h2 HT.out).mono ?_; rintro e w1 ⟨rfl, hb1⟩; have hz1 := hb1.size; (repeat (first | rw [World.size_alloc] at hz1 | rw [World.size_setCell] at hz1 | rw [World.size_drew] at hz1)))
  go_wp2_with fail
  go_returns
  exact ⟨by rw [HV.out]; simp [ByteArray.mk_append_mk], by (repeat' (first | (with_reducible exact Below.refl _ _) | (with_reducible refine Below.alloc ?_ ?_ _) | (with_reducible refine Below.drew ?_) | (with_reducible refine Below.setCell ?_ ?_ _) | (with_reducible refine Below.trans ?_ (Below.mono (by assumption) ?_)) | go_size))⟩
end Go.Proofs.YtpiifcgjdfkhaaaDoor
