import Derived.Test.YtpiifcgjdfkhaaaDoorRm
namespace Go.Proofs.YtpiifcgjdfkhaaaDoor
open Go Go.RowKit
theorem sReadText (s : ByteArray) (w : World) (hs : s.size ≤ 281474976710656) :
    Calls Tryd.prog 14 #[.string s] w fun e w' => ReadIs s.data.toList e ∧ Below w.heap.size w w' := by
  by_cases h0 : s.size = 0
  · obtain rfl : s = ⟨⟨[]⟩⟩ := by
      obtain ⟨⟨l⟩⟩ := s
      cases l with
      | nil => rfl
      | cons c r => exact absurd h0 (by show (c :: r).length ≠ 0; simp)
    exact sReadText_empty w
  · by_cases hi : (s[s.size - 1]'(by omega)).toNat = 105
    · exact sReadText_i s w hs (by omega) hi
    · exact sReadText_plain s w hs (by omega) hi
theorem lastPm_exists (l : List UInt8) : ∃ k : Int, -1 ≤ k ∧ LastPm l k := by
  have key : ∀ r : List UInt8, ∃ k : Int, -1 ≤ k ∧ LastPm r.reverse k := by
    intro r
    induction r with
    | nil => exact ⟨-1, by omega, .inl ⟨rfl, by simp⟩⟩
    | cons c r ih =>
      rw [List.reverse_cons]
      cases hc : isPm c
      · obtain ⟨k, hk, h⟩ := ih
        rcases h with ⟨rfl, h⟩ | ⟨pre, c', post, e, h1, h2, h3⟩
        · refine ⟨-1, hk, .inl ⟨rfl, fun b hb => ?_⟩⟩
          rcases List.mem_append.1 hb with hb | hb
          · exact h b hb
          · obtain rfl := List.mem_singleton.1 hb; exact hc
        · refine ⟨k, hk, .inr ⟨pre, c', post ++ [c], by rw [e]; simp, h1, fun b hb => ?_, h3⟩⟩
          rcases List.mem_append.1 hb with hb | hb
          · exact h2 b hb
          · obtain rfl := List.mem_singleton.1 hb; exact hc
      · exact ⟨(r.reverse.length : Int), by omega, .inr ⟨r.reverse, c, [], rfl, hc, by simp, rfl⟩⟩
  have := key l.reverse
  rwa [List.reverse_reverse] at this
theorem loose_exists (l : List UInt8) : ∃ e, LooseIs l e := by
  by_cases hs : Lib.hasSuffix l [105] = true
  · obtain ⟨k, hk, hl⟩ := lastPm_exists (Lib.trimSuffix l [105])
    let c : Nat := (max 0 k).toNat
    let F := if (Lib.trimSuffix l [105]).take c = [] then [48] else (Lib.trimSuffix l [105]).take c
    let S := if Lib.trimS ((Lib.trimSuffix l [105]).drop c) [43, 45] = [] then (Lib.trimSuffix l [105]).drop c ++ [49] else (Lib.trimSuffix l [105]).drop c
    refine ⟨_, (rd F).getD 0, (rd S).getD 0, (rd F).isSome && (rd S).isSome, rfl, .inr ⟨hs, k, c, F, S, hk, by show ((max 0 k).toNat : Int) = _; omega, fun _ => hl, rfl, rfl, rfl, fun h => ?_⟩⟩
    rw [Bool.and_eq_true] at h
    obtain ⟨x, hx⟩ := Option.isSome_iff_exists.1 h.1
    obtain ⟨y, hy⟩ := Option.isSome_iff_exists.1 h.2
    rw [hx, hy]; exact ⟨rfl, rfl⟩
  · refine ⟨_, (rd l).getD 0, 0, (rd l).isSome, rfl, .inl ⟨by rw [← Bool.not_eq_true]; exact hs, rfl, fun h => ?_⟩⟩
    obtain ⟨x, hx⟩ := Option.isSome_iff_exists.1 h
    rw [hx]; exact ⟨rfl, rfl⟩
/-- No two numbers have one text. -/
theorem txt_inj {a b a' b' : Int} (h : gok a b = true) (h' : gok a' b' = true) (e : txt a b = txt a' b') : a = a' ∧ b = b' := by
  obtain ⟨x, hx⟩ := loose_exists (txt a b)
  have h1 := loose_txt a b h x hx
  rw [e] at hx
  have h2 := loose_txt a' b' h' x hx
  rw [h1] at h2
  simp at h2
  exact h2
theorem readIs_one {l : List UInt8} {e e' : Ending} (h : ReadIs l e) (h' : ReadIs l e') : e = e' := by
  obtain ⟨a, b, o, rfl, h⟩ := h
  obtain ⟨a', b', o', rfl, h'⟩ := h'
  rcases h with ⟨rfl, hg, rfl⟩ | ⟨rfl, rfl, rfl, hn⟩ <;> rcases h' with ⟨rfl, hg', e'⟩ | ⟨rfl, rfl, rfl, hn'⟩
  · obtain ⟨rfl, rfl⟩ := txt_inj hg hg' e'; rfl
  · exact absurd rfl (hn' _ _ hg)
  · exact absurd e' (hn _ _ hg')
  · rfl
end Go.Proofs.YtpiifcgjdfkhaaaDoor
