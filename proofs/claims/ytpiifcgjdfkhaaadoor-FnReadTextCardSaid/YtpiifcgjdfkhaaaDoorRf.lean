import Derived.Test.YtpiifcgjdfkhaaaDoorRd
namespace Go.Proofs.YtpiifcgjdfkhaaaDoor
open Go Go.RowKit
theorem dec_rec (u : Nat) (h : ¬ u < 10) : Lib.decDigits u = Lib.decDigits (u / 10) ++ [UInt8.ofNat (48 + u % 10)] := by rw [Lib.decDigits, dif_neg (by omega)]
theorem dec_one (u : Nat) (h : u < 10) : Lib.decDigits u = [UInt8.ofNat (48 + u)] := by rw [Lib.decDigits, dif_pos (by omega)]
theorem ofNat_toNat (k : Nat) (h : k < 256) : (UInt8.ofNat k).toNat = k := by simp [UInt8.toNat_ofNat']; omega
theorem dec_dig (u : Nat) : ∀ b ∈ Lib.decDigits u, 48 ≤ b.toNat ∧ b.toNat ≤ 57 := by
  induction u using Nat.strongRecOn with
  | ind u ih =>
    by_cases h : u < 10
    · rw [dec_one u h]
      intro b hb
      obtain rfl := List.mem_singleton.1 hb
      rw [ofNat_toNat _ (by omega)]; omega
    · rw [dec_rec u h]
      intro b hb
      rcases List.mem_append.1 hb with hb | hb
      · exact ih (u / 10) (by omega) b hb
      · obtain rfl := List.mem_singleton.1 hb
        rw [ofNat_toNat _ (by omega)]; omega
theorem dec_ne (u : Nat) : Lib.decDigits u ≠ [] := by
  by_cases h : u < 10
  · rw [dec_one u h]; simp
  · rw [dec_rec u h]; simp
theorem parse_dec (u : Nat) : u ≤ 100000 → ∀ r, Lib.parseUint10 0 (Lib.decDigits u ++ r) = Lib.parseUint10 u r := by
  induction u using Nat.strongRecOn with
  | ind u ih =>
    intro hu r
    by_cases h : u < 10
    · rw [dec_one u h]
      show Lib.parseUint10 0 (UInt8.ofNat (48 + u) :: r) = _
      rw [Lib.parseUint10, ofNat_toNat _ (by omega), if_pos (by omega), if_neg (by omega), if_neg (by omega)]
      congr 1; omega
    · rw [dec_rec u h, List.append_assoc, ih (u / 10) (by omega) (by omega)]
      show Lib.parseUint10 (u / 10) (UInt8.ofNat (48 + u % 10) :: r) = _
      rw [Lib.parseUint10, ofNat_toNat _ (by omega), if_pos (by omega), if_neg (by omega), if_neg (by omega)]
      congr 1; omega
theorem mag_dec (u : Nat) (h : u ≤ 100000) : Lib.parseMag (Lib.decDigits u) = .ok u := by
  unfold Lib.parseMag
  rw [if_neg (dec_ne u)]
  have := parse_dec u h []
  rw [List.append_nil] at this
  rw [this, Lib.parseUint10]
theorem rd_dec (u : Nat) (h : u ≤ 100000) : rd (Lib.decDigits u) = some (u : Int) := by
  have hm := mag_dec u h
  have hd := dec_dig u
  have hn := dec_ne u
  unfold rd Lib.atoiAll
  generalize Lib.decDigits u = l at *
  cases l with
  | nil => exact absurd rfl hn
  | cons c r =>
    have hc := hd c (by simp)
    have h1 : ¬ (c.toNat = 43 ∨ c.toNat = 45) := by omega
    have h2 : ¬ c.toNat = 45 := by omega
    have hb : ¬ 9223372036854775808 ≤ u := by omega
    have h3 : ¬ c.toNat = 43 := by omega
    simp [h2, h3, hm, hb]
theorem rd_plus (u : Nat) (h : u ≤ 100000) : rd (43 :: Lib.decDigits u) = some (u : Int) := by
  have hm := mag_dec u h
  have hb : ¬ 9223372036854775808 ≤ u := by omega
  unfold rd Lib.atoiAll
  simp [hm, hb]
theorem rd_minus (u : Nat) (h : u ≤ 100000) : rd (45 :: Lib.decDigits u) = some (-(u : Int)) := by
  have hm := mag_dec u h
  have hb : ¬ 9223372036854775808 < u := by omega
  unfold rd Lib.atoiAll
  simp [hm, hb]
theorem rd_itoa (n : Int) (h1 : -1000 ≤ n) (h2 : n ≤ 1000) : rd (Lib.itoa n) = some n := by
  by_cases h : 0 ≤ n
  · rw [itoa_nn h, rd_dec _ (by omega)]; congr 1; omega
  · rw [itoa_neg (by omega), itoa_nn (by omega), rd_minus _ (by omega)]; congr 1; omega
/-- The last sign's place is one. -/
theorem lastPm_some {l F d : List UInt8} {c : UInt8} {k : Int} (h : LastPm l k) (e : l = F ++ c :: d) (hc : isPm c = true) (hd : ∀ b ∈ d, isPm b = false) : k = (F.length : Int) := by
  rcases h with ⟨-, h⟩ | ⟨pre, c', post, e', hc', hp, rfl⟩
  · have := h c (by rw [e]; simp)
    rw [hc] at this; cases this
  · have key : ∀ (F pre d post : List UInt8) (c c' : UInt8), F ++ c :: d = pre ++ c' :: post → isPm c = true → isPm c' = true → (∀ b ∈ d, isPm b = false) → (∀ b ∈ post, isPm b = false) → pre.length = F.length := by
      intro F
      induction F with
      | nil =>
        intro pre d post c c' e hc hc' hd hp
        cases pre with
        | nil => rfl
        | cons p pre =>
          injection e with e1 e2
          have := hd c' (by rw [e2]; simp)
          rw [hc'] at this; cases this
      | cons f F ih =>
        intro pre d post c c' e hc hc' hd hp
        cases pre with
        | nil =>
          injection e with e1 e2
          have := hp c (by rw [← e2]; simp)
          rw [hc] at this; cases this
        | cons p pre =>
          injection e with e1 e2
          have := ih pre d post c c' e2 hc hc' hd hp
          simp [this]
    rw [key F pre d post c c' (e ▸ e') hc hc' hd hp]
theorem lastPm_none {l : List UInt8} {k : Int} (h : LastPm l k) (hn : ∀ b ∈ l, isPm b = false) : k = -1 := by
  rcases h with ⟨h, -⟩ | ⟨pre, c, post, e, hc, -, -⟩
  · exact h
  · have := hn c (by rw [e]; simp)
    rw [hc] at this; cases this
end Go.Proofs.YtpiifcgjdfkhaaaDoor
