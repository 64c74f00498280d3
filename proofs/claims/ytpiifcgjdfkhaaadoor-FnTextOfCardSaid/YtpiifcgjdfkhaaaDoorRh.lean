import Derived.Test.YtpiifcgjdfkhaaaDoorRg
namespace Go.Proofs.YtpiifcgjdfkhaaaDoor
open Go Go.RowKit
theorem sec_facts {S : List UInt8} {b : Int} (h : Sec S b) : ∃ c d, S = c :: d ∧ isPm c = true ∧ (∀ x ∈ d, isPm x = false) ∧ (∀ x ∈ S, x.toNat < 128) ∧
    rd (if Lib.trimS S [43, 45] = [] then S ++ [49] else S) = some b := by
  rcases h with ⟨rfl, rfl⟩ | ⟨rfl, rfl⟩ | ⟨u, hu, ⟨rfl, rfl⟩ | ⟨rfl, rfl⟩⟩
  · exact ⟨43, [], rfl, rfl, by simp, by simp, by decide⟩
  · exact ⟨45, [], rfl, rfl, by simp, by simp, by decide⟩
  · obtain ⟨x, hx⟩ := List.exists_mem_of_ne_nil _ (dec_ne u)
    refine ⟨43, _, rfl, rfl, fun x hx => dig_pm (dec_dig u x hx), ?_, ?_⟩
    · intro x hx
      rcases List.mem_cons.1 hx with rfl | hx
      · decide
      · have := dec_dig u x hx; omega
    · rw [if_neg (trim_ne (List.mem_cons_of_mem _ hx) (dig_pm (dec_dig u x hx))), rd_plus u (by omega)]
  · obtain ⟨x, hx⟩ := List.exists_mem_of_ne_nil _ (dec_ne u)
    refine ⟨45, _, rfl, rfl, fun x hx => dig_pm (dec_dig u x hx), ?_, ?_⟩
    · intro x hx
      rcases List.mem_cons.1 hx with rfl | hx
      · decide
      · have := dec_dig u x hx; omega
    · rw [if_neg (trim_ne (List.mem_cons_of_mem _ hx) (dig_pm (dec_dig u x hx))), rd_minus u (by omega)]
theorem bare_facts {S : List UInt8} {b : Int} (h : Bare S b) : (∀ x ∈ S, isPm x = false) ∧ (∀ x ∈ S, x.toNat < 128) ∧
    rd (if Lib.trimS S [43, 45] = [] then S ++ [49] else S) = some b := by
  rcases h with ⟨rfl, rfl⟩ | ⟨u, hu, rfl, rfl⟩
  · exact ⟨by simp, by simp, by decide⟩
  · obtain ⟨x, hx⟩ := List.exists_mem_of_ne_nil _ (dec_ne u)
    refine ⟨fun x hx => dig_pm (dec_dig u x hx), fun x hx => by have := dec_dig u x hx; omega, ?_⟩
    rw [if_neg (trim_ne hx (dig_pm (dec_dig u x hx))), rd_dec u (by omega)]
theorem fst_facts {F : List UInt8} {a : Int} (h : Fst F a) (h1 : -1000 ≤ a) (h2 : a ≤ 1000) : (∀ x ∈ F, x.toNat < 128) ∧ rd (if F = [] then [48] else F) = some a := by
  rcases h with ⟨rfl, rfl⟩ | ⟨hn, rfl⟩
  · exact ⟨by simp, by decide⟩
  · exact ⟨fun x hx => by have := itoa_bytes a x hx; omega, by rw [if_neg hn, rd_itoa a h1 h2]⟩
/-- A number's own text reads as that number. -/
theorem loose_txt (a b : Int) (hg : gok a b = true) (e : Ending) (h : LooseIs (txt a b) e) : e = .returned (.tuple #[.agg #[.int .i64 a, .int .i64 b], .bool true]) := by
  obtain ⟨h1, h2, h3, h4⟩ := gok_bd hg
  obtain ⟨a', b', o, rfl, h⟩ := h
  by_cases hb : b = 0
  · subst hb
    have ht : txt a 0 = Lib.itoa a := by unfold txt; rw [if_neg (by rw [hg]; simp), if_pos rfl]
    rw [ht] at h
    have hn : Lib.hasSuffix (Lib.itoa a) [105] = false := suf_no fun x hx => by have := itoa_bytes a x hx; omega
    rcases h with ⟨-, ho, h⟩ | ⟨hs, -⟩
    · rw [rd_itoa a h1 h2] at ho h
      subst ho
      obtain ⟨e1, rfl⟩ := h rfl
      injection e1 with e1
      subst e1
      rfl
    · rw [hn] at hs; cases hs
  · obtain ⟨F, S, ht, hF, hS⟩ := txt_shape a b hg hb
    rw [ht] at h
    rcases h with ⟨hs, -⟩ | ⟨-, k, c, F', S', hk, hc, hl, rfl, rfl, ho, h⟩
    · rw [suf_i] at hs; cases hs
    rw [cut_i] at *
    obtain ⟨fa, fr⟩ := fst_facts hF h1 h2
    have hlen : c = F.length ∧ rd (if Lib.trimS S [43, 45] = [] then S ++ [49] else S) = some b := by
      rcases hS with hS | ⟨rfl, hS⟩
      · obtain ⟨c', d, e, hpm, hd, ha, hr⟩ := sec_facts hS
        have hk' := lastPm_some (hl fun x hx => by rcases List.mem_append.1 hx with hx | hx; exact fa x hx; exact ha x hx) (by rw [e]) hpm hd
        exact ⟨by omega, hr⟩
      · obtain ⟨hd, ha, hr⟩ := bare_facts hS
        have hk' := lastPm_none (hl fun x hx => ha x (by simpa using hx)) (fun x hx => hd x (by simpa using hx))
        exact ⟨by simp; omega, hr⟩
    obtain ⟨rfl, hr⟩ := hlen
    rw [List.take_left, List.drop_left, fr, hr] at ho h
    subst ho
    obtain ⟨e1, e2⟩ := h rfl
    injection e1 with e1
    injection e2 with e2
    subst e1 e2
    rfl
end Go.Proofs.YtpiifcgjdfkhaaaDoor
