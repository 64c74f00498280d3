import Derived.Test.YtpiifcgjdfkhaaaDoorTa
import Derived.Deep.RegionHeld3
import Derived.Deep.RegionWith
import Derived.Lib.ItoaNum
import Derived.WalkSpells
import Derived.WalkLawsBesides
import Derived.Laws.BytesString
namespace Go.Proofs.YtpiifcgjdfkhaaaDoor
open Go Go.RowKit
attribute [local go_sem] World.cell?_alloc_some cell?_alloc2_some cell?_alloc3_some cell?_alloc4_some frozen?_alloc_some frozen?_alloc2_some frozen?_alloc3_some World.cell?_setCell_far new_ne0 new_ne1 new_ne2 new_ne3 lt2 lt3 lt4 lt5 lt6 lt7 lt8 lt9

theorem conv1 (m : Int) : ∀ (W : World) (b : Nat), W.cell? ⟨b, 0, none⟩ = some (.int .u8 m) → (convert 22 9 (.slice (some ⟨b, 0, none⟩) 1 1)).run Tryd.prog W = .ok (.string ⟨#[UInt8.ofNat m.toNat]⟩) W := by
  intro W b h
  rw [run_convert_bytes_string W 22 9 5 (some ⟨b, 0, none⟩) 1 1 Tryd.underlying22 Tryd.underlying5 Tryd.underlying9]
  rw [run_bytesToString W ⟨b, 0, none⟩ 1 1 [m] (by simp [loadCells, go_sem, h])]
  rfl

theorem dec_len (k : Nat) : ∀ u, u < 10 ^ (k + 1) → (Lib.decDigits u).length ≤ k + 1 := by
  induction k with
  | zero => intro u h; rw [Lib.decDigits, dif_pos (by simpa using h)]; simp
  | succ k ih =>
    intro u h
    rw [Lib.decDigits]
    split
    · simp
    · have := ih (u / 10) (by rw [Nat.pow_succ] at h; omega)
      simp; omega

set_option maxRecDepth 100000 in
set_option maxHeartbeats 1000000 in
theorem l1Number_nn (k : Nat) : ∀ (n : Int) (w : World), 0 ≤ n → n ≤ k → n ≤ 1000000 →
    Calls Tryd.prog 22 #[.int .i64 n] w fun e w' => e = .returned (.string ⟨(Lib.decDigits n.toNat).toArray⟩) ∧ Below w.heap.size w w' := by
  induction k with
  | zero =>
    intro n w h0 h1 h2
    obtain rfl : n = 0 := by omega
    have hcv := conv1 48
    go_enter Tryd.func22, Tryd.ntmps22
    go_wp2_with fail
    go_returns
    exact ⟨by rw [Lib.decDigits]; rfl, by (repeat' (first | (with_reducible exact Below.refl _ _) | (with_reducible refine Below.alloc ?_ ?_ _) | (with_reducible refine Below.drew ?_) | (with_reducible refine Below.setCell ?_ ?_ _) | (with_reducible refine Below.trans ?_ (Below.mono (by assumption) ?_)) | go_size))⟩
  | succ k ih =>
    intro n w h0 h1 h2
    have IH := Lib.hid ih
    clear ih
    by_cases h9 : n < 10
    · have hcv := conv1 (48 + n)
      go_enter Tryd.func22, Tryd.ntmps22
      go_wp2_with fail
      go_returns
      have e : (48 + n).toNat = 48 + n.toNat := by omega
      exact ⟨by rw [Lib.decDigits, dif_pos (by omega), e]; rfl, by (repeat' (first | (with_reducible exact Below.refl _ _) | (with_reducible refine Below.alloc ?_ ?_ _) | (with_reducible refine Below.drew ?_) | (with_reducible refine Below.setCell ?_ ?_ _) | (with_reducible refine Below.trans ?_ (Below.mono (by assumption) ?_)) | go_size))⟩
    · have hcv := conv1 (48 + n % 10)
      have m0 : 0 ≤ n % 10 := Int.emod_nonneg _ (by omega)
      have m1 : n % 10 < 10 := Int.emod_lt_of_pos _ (by omega)
      have hq1 : n.tdiv 10 = n / 10 := Int.tdiv_eq_ediv_of_nonneg h0
      have hq2 : n.tmod 10 = n % 10 := Int.tmod_eq_emod_of_nonneg h0
      have hw1 : IntKind.i64.wrap (n / 10) = n / 10 := IntWalk.i64_in _ (by omega)
      have hw2 : IntKind.i64.wrap (n % 10) = n % 10 := IntWalk.i64_in _ (by omega)
      have hw3 : IntKind.i64.wrap (48 + n % 10) = 48 + n % 10 := IntWalk.i64_in _ (by omega)
      have hw4 : IntKind.u8.wrap (48 + n % 10) = 48 + n % 10 := IntWalk.u8_in _ (by omega)
      have hl := dec_len 6 (n / 10).toNat (by omega)
      have hno : ¬ (9223372036854775807 < (Lib.decDigits (n / 10).toNat).length + 1) := by omega
      go_enter Tryd.func22, Tryd.ntmps22
      go_wp2_with fail
      go_region_with (first | (go_at_call 22; with_reducible refine Calls.mono (IH.out (n / 10) _ (by omega) (by omega) (by omega)) ?_; rintro e w1 ⟨rfl, hb1⟩; have hz1 := hb1.size; (try simp at hz1); obtain ⟨hc1, hf1⟩ := bcell hb1))
      all_goals go_wp2_with fail
      all_goals
        have e1 : Lib.decDigits n.toNat = Lib.decDigits (n / 10).toNat ++ [UInt8.ofNat (48 + n % 10).toNat] := by
          rw [Lib.decDigits, dif_neg (by omega)]
          have a1 : (n / 10).toNat = n.toNat / 10 := by omega
          have a2 : (48 + n % 10).toNat = 48 + n.toNat % 10 := by omega
          rw [a1, a2]
        rw [e1, ← ByteArray.mk_append_mk]
        clear e1 hno
        refine bodyPost_ret (v := .string (⟨(Lib.decDigits (n / 10).toNat).toArray⟩ ++ ⟨[UInt8.ofNat (48 + n % 10).toNat].toArray⟩)) (by simp [results, Tryd.results22, go_sem]) rfl ⟨rfl, ?_⟩
        ((repeat' (first | (with_reducible exact Below.refl _ _) | (with_reducible refine Below.alloc ?_ ?_ _) | (with_reducible refine Below.drew ?_) | (with_reducible refine Below.setCell ?_ ?_ _) | (with_reducible refine Below.trans ?_ (Below.mono (by assumption) ?_)) | go_size)))

/-- The text of a number, as lists of bytes. -/
def iTxt (b : Int) : List UInt8 := if b = 1 then [105] else if b = -1 then [45, 105] else Lib.itoa b ++ [105]
def txt (a b : Int) : List UInt8 :=
  if gok a b = false then [] else if b = 0 then Lib.itoa a else if a = 0 then iTxt b else if 0 < b then Lib.itoa a ++ [43] ++ iTxt b else Lib.itoa a ++ iTxt b

theorem itoa_nn {n : Int} (h : 0 ≤ n) : Lib.itoa n = Lib.decDigits n.toNat := by unfold Lib.itoa; rw [if_neg (by omega)]
theorem itoa_neg {n : Int} (h : n < 0) : Lib.itoa n = 45 :: Lib.itoa (-n) := by
  rw [itoa_nn (n := -n) (by omega)]
  unfold Lib.itoa
  rw [if_pos h]
  have : n.natAbs = (-n).toNat := by omega
  rw [this]
theorem itoa_len {n : Int} (h1 : -1000 ≤ n) (h2 : n ≤ 1000) : (Lib.itoa n).length ≤ 8 := by
  by_cases h : 0 ≤ n
  · rw [itoa_nn h]; have := dec_len 6 n.toNat (by omega); omega
  · rw [itoa_neg (by omega), itoa_nn (by omega)]; have := dec_len 6 (-n).toNat (by omega); simp; omega

set_option maxRecDepth 100000 in
theorem l1Number (n : Int) (w : World) (h1 : -1000 ≤ n) (h2 : n ≤ 1000) :
    Calls Tryd.prog 22 #[.int .i64 n] w fun e w' => e = .returned (.string ⟨(Lib.itoa n).toArray⟩) ∧ Below w.heap.size w w' := by
  by_cases h0 : 0 ≤ n
  · rw [itoa_nn h0]; exact l1Number_nn n.toNat n w h0 (by omega) (by omega)
  · have hl := itoa_len (n := -n) (by omega) (by omega)
    have hno : ¬ (9223372036854775807 < 1 + (Lib.itoa (-n)).length) := by omega
    have hne : (n == -n) = false := by simp; omega
    have hs := itoa_neg (n := n) (by omega)
    have HS := Lib.hid hs
    clear hs
    have hn : n < 0 := by omega
    have hc : ∀ w : World, Calls Tryd.prog 22 #[.int .i64 (-n)] w fun e w' => e = .returned (.string ⟨(Lib.itoa (-n)).toArray⟩) ∧ Below w.heap.size w w' := fun w => by
      rw [itoa_nn (by omega)]; exact l1Number_nn (-n).toNat (-n) w (by omega) (by omega) (by omega)
    have HC := Lib.hid hc
    clear hc
    go_enter Tryd.func22, Tryd.ntmps22
    go_wp2_with fail
    refine (HC.out _).mono ?_
    rintro e w1 ⟨rfl, hb1⟩
    go_wp2_with fail
    go_returns
    exact ⟨by rw [HS.out]; simp [ByteArray.mk_append_mk], by (repeat' (first | (with_reducible exact Below.refl _ _) | (with_reducible refine Below.alloc ?_ ?_ _) | (with_reducible refine Below.drew ?_) | (with_reducible refine Below.setCell ?_ ?_ _) | (with_reducible refine Below.trans ?_ (Below.mono (by assumption) ?_)) | go_size))⟩
end Go.Proofs.YtpiifcgjdfkhaaaDoor
