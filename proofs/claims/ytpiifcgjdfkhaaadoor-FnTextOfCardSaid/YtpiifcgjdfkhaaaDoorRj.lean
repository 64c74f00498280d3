import Derived.Test.YtpiifcgjdfkhaaaDoorRi
import Derived.Test.YtpiifcgjdfkhaaaDoorTe
namespace Go.Proofs.YtpiifcgjdfkhaaaDoor
open Go Go.RowKit
attribute [local go_sem] World.cell?_alloc_some cell?_alloc2_some cell?_alloc3_some cell?_alloc4_some frozen?_alloc_some frozen?_alloc2_some frozen?_alloc3_some World.cell?_setCell_far new_ne0 new_ne1 new_ne2 new_ne3 lt2 lt3 lt4 lt5 lt6 lt7 lt8 lt9
def dv (l : List UInt8) : Int := l.foldl (fun (n : Int) c => 10 * n + ((c.toNat : Int) - 48)) 0
theorem dv_snoc (l : List UInt8) (c : UInt8) : dv (l ++ [c]) = 10 * dv l + ((c.toNat : Int) - 48) := by unfold dv; rw [List.foldl_append]; rfl
theorem dv_dec (u : Nat) : dv (Lib.decDigits u) = (u : Int) := by
  induction u using Nat.strongRecOn with
  | ind u ih =>
    by_cases h : u < 10
    · rw [dec_one u h]
      show 10 * (0 : Int) + (((UInt8.ofNat (48 + u)).toNat : Int) - 48) = _
      rw [ofNat_toNat _ (by omega)]; omega
    · rw [dec_rec u h, dv_snoc, ih (u / 10) (by omega), ofNat_toNat _ (by omega)]; omega
theorem dec_head (u : Nat) : 0 < u → ∀ c r, Lib.decDigits u = c :: r → c.toNat ≠ 48 := by
  induction u using Nat.strongRecOn with
  | ind u ih =>
    intro h0 c r e
    by_cases h : u < 10
    · rw [dec_one u h] at e
      injection e with e1 e2
      rw [← e1, ofNat_toNat _ (by omega)]; omega
    · rw [dec_rec u h] at e
      cases hd : Lib.decDigits (u / 10) with
      | nil => exact absurd hd (dec_ne _)
      | cons c' r' =>
        rw [hd] at e
        injection e with e1 e2
        rw [← e1]
        exact ih (u / 10) (by omega) (by omega) c' r' hd
theorem dec_size (u : Nat) (h : u ≤ 1000) : 1 ≤ (Lib.decDigits u).length ∧ (Lib.decDigits u).length ≤ 6 := by
  have h1 := dec_len 3 u (by omega)
  have h2 := List.length_pos_iff.2 (dec_ne u)
  omega
def DigIs (l : List UInt8) (e : Ending) : Prop := ∃ v : Int, e = .returned (.int .i64 v) ∧ -1 ≤ v ∧ v ≤ 999999 ∧ (∀ u : Nat, u ≤ 1000 → l = Lib.decDigits u → v = u)
theorem pow6 (k : Nat) (h : k ≤ 6) : (10 : Nat) ^ k ≤ 1000000 := Nat.pow_le_pow_right (n := 10) (by omega) h

set_option maxRecDepth 100000 in
set_option maxHeartbeats 1000000 in
theorem l1Digits (s : ByteArray) (w : World) (hs : s.size ≤ 281474976710656) :
    Calls Tryd.prog 34 #[.string s] w fun e w' => DigIs s.data.toList e ∧ Below w.heap.size w w' := by
  have hlen : s.data.toList.length = s.size := by simp
  by_cases hr : 1 ≤ s.size ∧ s.size ≤ 6
  · have hrd : decide ((1 : Int) ≤ s.size ∧ (s.size : Int) ≤ 6) = true := by simp; omega
    obtain ⟨c0, r0, hc0⟩ : ∃ c r, s.data.toList = c :: r := by
      cases h : s.data.toList with
      | nil => rw [h] at hlen; simp at hlen; omega
      | cons c r => exact ⟨c, r, rfl⟩
    have hs0 : ∀ h : 0 < s.size, s[0] = c0 := by
      intro h
      have : s.data.toList[0]'(by omega) = c0 := by simp only [hc0]; rfl
      exact this
    have HC := Lib.hid hc0
    clear hc0
    by_cases h1 : 1 < s.size ∧ c0.toNat = 48
    · have HN : Hid (∀ u : Nat, u ≤ 1000 → s.data.toList = Lib.decDigits u → (-1 : Int) = u) := fun u hu e => by
        by_cases hu0 : 0 < u
        · exact absurd h1.2 (dec_head u hu0 c0 r0 (by rw [← e]; exact HC.out))
        · obtain rfl : u = 0 := by omega
          rw [dec_one 0 (by omega)] at e
          rw [e] at hlen; simp at hlen; omega
      obtain ⟨h1, h2⟩ := h1
      have h2' : ((c0.toNat : Int) == 48) = true := by simp; omega
      go_enter Tryd.func34, Tryd.ntmps34
      go_wp2_with fail
      refine (l1In _ _ _ _).mono ?_
      rintro e w1 ⟨rfl, rfl⟩
      rw [hrd]
      go_wp2_with fail
      go_returns
      exact ⟨⟨-1, rfl, by omega, by omega, HN.out⟩, Below.refl _ _⟩
    · have h2 : 1 < s.size → ((c0.toNat : Int) == 48) = false := by intro h; simp; omega
      go_enter Tryd.func34, Tryd.ntmps34
      go_wp2_with fail
      refine (l1In _ _ _ _).mono ?_
      rintro e w1 ⟨rfl, rfl⟩
      rw [hrd]
      go_wp2_with fail
      all_goals clear h2 hs0 hrd
      all_goals
        go_loop [3, 4] (fun n i => ∃ k : Nat, i = .int .i64 k ∧ k ≤ s.size ∧ n = .int .i64 (dv (s.data.toList.take k)) ∧ 0 ≤ dv (s.data.toList.take k) ∧ dv (s.data.toList.take k) < ((10 ^ k : Nat) : Int)) (fun _ i => s.size - (intOf i).toNat)
        case atStart => exact ⟨0, rfl, Nat.zero_le _, rfl, by rw [List.take_zero]; decide, by rw [List.take_zero]; decide⟩
        case round =>
          obtain ⟨k, rfl, hk, rfl, hv0, hv1⟩ := hrel
          have hp := pow6 k (by omega)
          have hps : 10 ^ (k + 1) = 10 ^ k * 10 := Nat.pow_succ ..
          have hpi : (10 : Int) ^ (k + 1) = ((10 ^ k : Nat) : Int) * 10 := by rw [Int.pow_succ]; push_cast; rfl
          have HPI := Lib.hid hpi
          clear hps hpi
          by_cases hlt : k < s.size
          · have hsn := dv_snoc (s.data.toList.take k) s[k]
            have hts : s.data.toList.take (k + 1) = s.data.toList.take k ++ [s[k]] := by
              rw [List.take_succ_eq_append_getElem (by omega)]; rfl
            have HS : Hid (dv (s.data.toList.take (k + 1)) = 10 * dv (s.data.toList.take k) + ((s[k].toNat : Int) - 48)) := by rw [hts]; exact hsn
            have HM : Hid (s[k] ∈ s.data.toList) := by
              have e : s[k] = s.data.toList[k]'(by omega) := rfl
              rw [e]; exact List.getElem_mem _
            clear hsn hts
            have hl : s[k].toNat < 256 := UInt8.toNat_lt _
            generalize hV : dv (s.data.toList.take k) = V at *
            have HV := Lib.hid hV
            clear hV
            generalize hP : 10 ^ k = P at *
            clear hP
            by_cases hd : 48 ≤ s[k].toNat ∧ s[k].toNat ≤ 57
            · obtain ⟨hd1, hd2⟩ := hd
              have t1 : decide ((s[k].toNat : Int) < 48) = false := by simp; omega
              have t2 : decide (57 < (s[k].toNat : Int)) = false := by simp; omega
              have w1 : IntKind.u8.wrap ((s[k].toNat : Int) - 48) = (s[k].toNat : Int) - 48 := IntWalk.u8_in _ (by omega)
              have w2 : IntKind.i64.wrap (10 * V) = 10 * V := IntWalk.i64_in _ (by omega)
              have w3 : IntKind.i64.wrap (10 * V + ((s[k].toNat : Int) - 48)) = 10 * V + ((s[k].toNat : Int) - 48) := IntWalk.i64_in _ (by omega)
              go_wp2_with fail
              all_goals
                go_round
                case rel =>
                  refine ⟨k + 1, by go_num, hlt, ?_, ?_, ?_⟩
                  · rw [HS.out]
                  · rw [HS.out]; omega
                  · rw [Int.natCast_pow] ; show _ < (10 : Int) ^ (k + 1); rw [HS.out, HPI.out]; omega
                case measure => simp [intOf]; omega
            · have HN : Hid (∀ u : Nat, u ≤ 1000 → s.data.toList = Lib.decDigits u → (-1 : Int) = u) := fun u hu e => by
                have := dec_dig u s[k] (by rw [← e]; exact HM.out)
                exact absurd this hd
              go_wp2_with fail
              all_goals
                go_returns
                exact ⟨⟨-1, rfl, by omega, by omega, HN.out⟩, Below.refl _ _⟩
          · go_wp2_with fail
            all_goals
              go_returns
              exact ⟨⟨_, rfl, by omega, by omega, fun u hu e => by rw [List.take_of_length_le (by omega), e, dv_dec]⟩, Below.refl _ _⟩
  · have hrd : decide ((1 : Int) ≤ s.size ∧ (s.size : Int) ≤ 6) = false := by simp; omega
    have HN : Hid (∀ u : Nat, u ≤ 1000 → s.data.toList = Lib.decDigits u → (-1 : Int) = u) := fun u hu e => by have := dec_size u hu; rw [← e] at this; omega
    go_enter Tryd.func34, Tryd.ntmps34
    go_wp2_with fail
    refine (l1In _ _ _ _).mono ?_
    rintro e w1 ⟨rfl, rfl⟩
    rw [hrd]
    go_wp2_with fail
    go_returns
    exact ⟨⟨-1, rfl, by omega, by omega, HN.out⟩, Below.refl _ _⟩
end Go.Proofs.YtpiifcgjdfkhaaaDoor
