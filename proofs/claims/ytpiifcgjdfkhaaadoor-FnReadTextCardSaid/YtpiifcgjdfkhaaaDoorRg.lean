import Derived.Test.YtpiifcgjdfkhaaaDoorRf
namespace Go.Proofs.YtpiifcgjdfkhaaaDoor
open Go Go.RowKit
theorem mem_dw {p : UInt8 → Bool} {x : UInt8} : ∀ {l : List UInt8}, x ∈ l → p x = false → x ∈ l.dropWhile p
  | c :: r, h, hp => by
    rw [List.dropWhile_cons]
    split
    · rename_i hc
      rcases List.mem_cons.1 h with rfl | h
      · rw [hp] at hc; cases hc
      · exact mem_dw h hp
    · exact h
theorem trim_ne {l : List UInt8} {x : UInt8} (h : x ∈ l) (hp : isPm x = false) : Lib.trimS l [43, 45] ≠ [] := by
  have hq : ([43, 45] : List UInt8).contains x = false := by rw [pmSet]; exact hp
  have h1 : x ∈ Lib.trimRightS l [43, 45] := by
    unfold Lib.trimRightS
    rw [List.mem_reverse]
    exact mem_dw (List.mem_reverse.2 h) hq
  have h2 : x ∈ Lib.trimS l [43, 45] := mem_dw h1 hq
  intro e
  rw [e] at h2; cases h2
theorem dig_pm {x : UInt8} (h : 48 ≤ x.toNat ∧ x.toNat ≤ 57) : isPm x = false := by
  refine (pmAt_isPm x).1 ?_
  unfold pmAt
  rw [if_neg (by omega), if_neg (by omega)]
  omega
theorem itoa_bytes (n : Int) : ∀ x ∈ Lib.itoa n, x.toNat = 45 ∨ (48 ≤ x.toNat ∧ x.toNat ≤ 57) := by
  intro x hx
  by_cases h : 0 ≤ n
  · rw [itoa_nn h] at hx; exact .inr (dec_dig _ x hx)
  · rw [itoa_neg (by omega), itoa_nn (by omega)] at hx
    rcases List.mem_cons.1 hx with rfl | hx
    · exact .inl rfl
    · exact .inr (dec_dig _ x hx)
theorem itoa_ne (n : Int) : Lib.itoa n ≠ [] := by
  by_cases h : 0 ≤ n
  · rw [itoa_nn h]; exact dec_ne _
  · rw [itoa_neg (by omega)]; simp
theorem suf_i (l : List UInt8) : Lib.hasSuffix (l ++ [105]) [105] = true := by
  unfold Lib.hasSuffix
  rw [List.isSuffixOf_iff_suffix]
  exact List.suffix_append _ _
theorem cut_i (l : List UInt8) : Lib.trimSuffix (l ++ [105]) [105] = l := by
  unfold Lib.trimSuffix
  rw [if_pos (suf_i l)]
  simp
theorem suf_no {l : List UInt8} (h : ∀ x ∈ l, x.toNat ≠ 105) : Lib.hasSuffix l [105] = false := by
  rw [← Bool.not_eq_true]
  unfold Lib.hasSuffix
  rw [List.isSuffixOf_iff_suffix]
  rintro ⟨t, rfl⟩
  exact h 105 (by simp) rfl

/-- What stands ahead of i, in its second part. -/
def Sec (S : List UInt8) (b : Int) : Prop := (S = [43] ∧ b = 1) ∨ (S = [45] ∧ b = -1) ∨ ∃ u : Nat, u ≤ 1000 ∧ ((S = 43 :: Lib.decDigits u ∧ b = u) ∨ (S = 45 :: Lib.decDigits u ∧ b = -(u : Int)))
def Fst (F : List UInt8) (a : Int) : Prop := (F = [] ∧ a = 0) ∨ (F ≠ [] ∧ F = Lib.itoa a)
def Bare (S : List UInt8) (b : Int) : Prop := (S = [] ∧ b = 1) ∨ ∃ u : Nat, u ≤ 1000 ∧ S = Lib.decDigits u ∧ b = u
theorem txt_shape (a b : Int) (hg : gok a b = true) (hb : b ≠ 0) : ∃ F S, txt a b = F ++ S ++ [105] ∧ Fst F a ∧ (Sec S b ∨ (F = [] ∧ Bare S b)) := by
  obtain ⟨h1, h2, h3, h4⟩ := gok_bd hg
  have hneg : b < 0 → ∃ S, iTxt b = S ++ [105] ∧ Sec S b := by
    intro hn
    unfold iTxt
    rw [if_neg (by omega)]
    by_cases e : b = -1
    · rw [if_pos e]; exact ⟨[45], rfl, .inr (.inl ⟨rfl, e⟩)⟩
    · rw [if_neg e, itoa_neg hn, itoa_nn (by omega)]
      exact ⟨_, rfl, .inr (.inr ⟨(-b).toNat, by omega, .inr ⟨rfl, by omega⟩⟩)⟩
  have hpos : 0 < b → ∃ S, iTxt b = S ++ [105] ∧ Bare S b ∧ Sec (43 :: S) b := by
    intro hn
    unfold iTxt
    by_cases e : b = 1
    · rw [if_pos e]; exact ⟨[], rfl, .inl ⟨rfl, e⟩, .inl ⟨rfl, e⟩⟩
    · rw [if_neg e, if_neg (by omega), itoa_nn (by omega)]
      exact ⟨_, rfl, .inr ⟨b.toNat, by omega, rfl, by omega⟩, .inr (.inr ⟨b.toNat, by omega, .inl ⟨rfl, by omega⟩⟩)⟩
  unfold txt
  rw [if_neg (by rw [hg]; simp), if_neg hb]
  by_cases ha : a = 0
  · rw [if_pos ha]
    by_cases hn : b < 0
    · obtain ⟨S, e, hs⟩ := hneg hn
      exact ⟨[], S, by rw [e]; rfl, .inl ⟨rfl, ha⟩, .inl hs⟩
    · obtain ⟨S, e, hs, -⟩ := hpos (by omega)
      exact ⟨[], S, by rw [e]; rfl, .inl ⟨rfl, ha⟩, .inr ⟨rfl, hs⟩⟩
  · rw [if_neg ha]
    by_cases hn : b < 0
    · obtain ⟨S, e, hs⟩ := hneg hn
      rw [if_neg (by omega)]
      exact ⟨Lib.itoa a, S, by rw [e]; simp, .inr ⟨itoa_ne a, rfl⟩, .inl hs⟩
    · obtain ⟨S, e, -, hs⟩ := hpos (by omega)
      rw [if_pos (by omega)]
      exact ⟨Lib.itoa a, 43 :: S, by rw [e]; simp, .inr ⟨itoa_ne a, rfl⟩, .inl hs⟩
end Go.Proofs.YtpiifcgjdfkhaaaDoor
