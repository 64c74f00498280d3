import Derived.Test.YtpiifcgjdfkhaaaDoorRn
namespace Go.Proofs.YtpiifcgjdfkhaaaDoor
open Go Go.RowKit
theorem txt_len (a b : Int) : (txt a b).length ≤ 20 := by
  cases k : gok a b
  · unfold txt; rw [if_pos k]; simp
  obtain ⟨h1, h2, h3, h4⟩ := gok_bd k
  have la := itoa_len h1 h2
  have lb := iTxt_len h3 h4
  unfold txt
  split
  · simp
  · split
    · omega
    · split
      · omega
      · split
        · simp; omega
        · simp; omega
theorem txt_nil {a b : Int} (k : gok a b = false) : txt a b = [] := by unfold txt; rw [if_pos k]
theorem txt_re {a : Int} (k : gok a 0 = true) : txt a 0 = Lib.itoa a := by unfold txt; rw [if_neg (by rw [k]; simp), if_pos rfl]
theorem itoa_no_i (n : Int) : ∀ x ∈ Lib.itoa n, x ≠ 105 := by
  intro x hx e
  subst e
  rcases itoa_bytes n _ hx with h | h
  · revert h; decide
  · revert h; decide
/-- The last byte of a number's text is an i exactly if its second part is not 0. -/
theorem txt_last {a b : Int} (k : gok a b = true) (s : ByteArray) (h0 : 0 < s.size) (h : s.data.toList = txt a b) : (s[s.size - 1].toNat = 105) ↔ b ≠ 0 := by
  by_cases hb : b = 0
  · subst hb
    rw [txt_re k] at h
    refine ⟨fun hi => ?_, fun hn => absurd rfl hn⟩
    exfalso
    have hm : s[s.size - 1] ∈ s.data.toList := by
      have e1 : s.data.toList[s.size - 1]'(by simp; omega) = s[s.size - 1] := rfl
      rw [← e1]; exact List.getElem_mem _
    rw [h] at hm
    exact itoa_no_i a _ hm (UInt8.toNat_inj.1 hi)
  · refine ⟨fun _ => hb, fun _ => ?_⟩
    obtain ⟨F, S, e, -⟩ := txt_shape a b k hb
    exact last_i s h0 (h.trans e)
theorem dec_no_m {u : Nat} : ∀ x ∈ Lib.decDigits u, x ≠ 45 ∧ x ≠ 43 := by
  intro x hx
  have := dec_dig u x hx
  refine ⟨?_, ?_⟩ <;> rintro rfl <;> revert this <;> decide
theorem sec_head {S : List UInt8} {b : Int} (h : Sec S b) : ∃ c d, S = c :: d ∧ isPm c = true := by
  obtain ⟨c, d, e, h, -⟩ := sec_facts h
  exact ⟨c, d, e, h⟩
theorem itoa_split {n : Int} {F S : List UInt8} {c : UInt8} (h1 : -1000 ≤ n) (h2 : n ≤ 1000) (hF : F ≠ []) (hc : isPm c = true) : Lib.itoa n ≠ F ++ c :: S := by
  intro e
  have key : ∀ u : Nat, ∀ F', Lib.decDigits u ≠ F' ++ c :: S := by
    intro u F' e'
    have hm : c ∈ Lib.decDigits u := by rw [e']; simp
    have := dig_pm (dec_dig u c hm)
    rw [this] at hc; cases hc
  by_cases h : 0 ≤ n
  · rw [itoa_nn h] at e
    exact key _ _ e
  · rw [itoa_neg (by omega), itoa_nn (by omega)] at e
    obtain ⟨f, F', rfl⟩ := List.exists_cons_of_ne_nil hF
    rw [List.cons_append] at e
    injection e with _ e
    exact key _ _ e
theorem rd_45 : rd [45] = none := by decide
theorem itoa_inj {a b : Int} (h1 : -1000 ≤ a) (h2 : a ≤ 1000) (h3 : -1000 ≤ b) (h4 : b ≤ 1000) (e : Lib.itoa a = Lib.itoa b) : a = b := by
  have x := rd_itoa a h1 h2
  rw [e, rd_itoa b h3 h4] at x
  injection x with x; exact x.symm
theorem txt_im {b : Int} (k : gok 0 b = true) (hb : b ≠ 0) : txt 0 b = iTxt b := by
  unfold txt; rw [if_neg (by rw [k]; simp), if_neg hb, if_pos rfl]
/-- With an i behind it a number's text is that of no number, but for whole numbers from 2 on and below -1. -/
theorem no_more {a b : Int} (k : gok a b = true) (hn : ¬ (b = 0 ∧ (1 < a ∨ a < -1))) : ∀ a' b', gok a' b' = true → txt a b ++ [105] ≠ txt a' b' := by
  intro a' b' k' e
  obtain ⟨h1, h2, h3, h4⟩ := gok_bd k
  obtain ⟨g1, g2, g3, g4⟩ := gok_bd k'
  by_cases hb' : b' = 0
  · subst hb'
    rw [txt_re k'] at e
    exact itoa_no_i a' 105 (by rw [← e]; simp) rfl
  obtain ⟨F, S, e2, hF, hS⟩ := txt_shape a' b' k' hb'
  rw [e2] at e
  have e3 : txt a b = F ++ S := List.append_cancel_right e
  rcases (Decidable.em (b = 0)).symm with hb | hb
  · obtain ⟨F2, S2, e4, -⟩ := txt_shape a b k hb
    rw [e4] at e3
    have hm : (105 : UInt8) ∈ F ++ S := by rw [← e3]; simp
    have hF' : ∀ x ∈ F, x ≠ 105 := by
      rcases hF with ⟨rfl, -⟩ | ⟨-, rfl⟩
      · simp
      · exact itoa_no_i a'
    have hD : ∀ u : Nat, ∀ x ∈ Lib.decDigits u, x ≠ 105 := by
      intro u x hx; have := dec_dig u x hx; rintro rfl; revert this; decide
    have hS' : ∀ x ∈ S, x ≠ 105 := by
      rcases hS with (⟨rfl, -⟩ | ⟨rfl, -⟩ | ⟨u, -, ⟨rfl, -⟩ | ⟨rfl, -⟩⟩) | ⟨-, ⟨rfl, -⟩ | ⟨u, -, rfl, -⟩⟩
      · intro x hx; simp at hx; subst hx; decide
      · intro x hx; simp at hx; subst hx; decide
      · intro x hx; rcases List.mem_cons.1 hx with rfl | hx
        · decide
        · exact hD u x hx
      · intro x hx; rcases List.mem_cons.1 hx with rfl | hx
        · decide
        · exact hD u x hx
      · simp
      · exact hD u
    rcases List.mem_append.1 hm with hm | hm
    · exact hF' _ hm rfl
    · exact hS' _ hm rfl
  subst hb
  rw [txt_re k] at e3
  rcases hF with ⟨rfl, rfl⟩ | ⟨hne, rfl⟩
  · rw [List.nil_append] at e3
    have e5 : txt 0 b' = Lib.itoa a ++ [105] := by rw [e2, e3]; rfl
    rw [txt_im k' hb'] at e5
    unfold iTxt at e5
    split at e5
    · have : Lib.itoa a = [] := List.append_cancel_right (bs := [105]) (by rw [← e5]; rfl)
      exact itoa_ne a this
    · split at e5
      · have : Lib.itoa a = [45] := List.append_cancel_right (bs := [105]) (by rw [← e5]; rfl)
        have x := rd_itoa a h1 h2
        rw [this, rd_45] at x; cases x
      · have := itoa_inj g3 g4 h1 h2 (List.append_cancel_right e5)
        omega
  · rcases hS with hS | ⟨h, -⟩
    · obtain ⟨c, d, rfl, hc⟩ := sec_head hS
      exact itoa_split h1 h2 hne hc e3
    · exact hne h
/-- A whole number's text with an i behind it is that of so many of i. -/
theorem more {a : Int} (k : gok a 0 = true) (hn : 1 < a ∨ a < -1) : gok 0 a = true ∧ txt a 0 ++ [105] = txt 0 a := by
  have k2 : gok 0 a = true := by have := gok_bd k; simp [gok, pok]; omega
  refine ⟨k2, ?_⟩
  rw [txt_re k, txt_im k2 (by omega)]
  unfold iTxt
  rw [if_neg (by omega), if_neg (by omega)]
end Go.Proofs.YtpiifcgjdfkhaaaDoor
