import Derived.Test.YtpiifcgjdfkhaaaDoorRj
namespace Go.Proofs.YtpiifcgjdfkhaaaDoor
open Go Go.RowKit
attribute [local go_sem] World.cell?_alloc_some cell?_alloc2_some cell?_alloc3_some cell?_alloc4_some frozen?_alloc_some frozen?_alloc2_some frozen?_alloc3_some World.cell?_setCell_far new_ne0 new_ne1 new_ne2 new_ne3 lt2 lt3 lt4 lt5 lt6 lt7 lt8 lt9
def PartIs (l : List UInt8) (e : Ending) : Prop := ∃ v : Int, e = .returned (.int .i64 v) ∧ ∀ b, Sec l b ∨ Bare l b → v = b
theorem part_neg {v : Int} (c : UInt8) (r : List UInt8) (hc : c.toNat = 45) (h0 : r = [] → v = -1) (hd : ∀ u : Nat, u ≤ 1000 → r = Lib.decDigits u → v = -(u : Int)) : ∀ b, Sec (c :: r) b ∨ Bare (c :: r) b → v = b := by
  rintro b (h | h)
  · rcases h with ⟨h, -⟩ | ⟨h, rfl⟩ | ⟨u, hu, ⟨h, -⟩ | ⟨h, rfl⟩⟩ <;> injection h with h1 h2
    · subst h1; exact absurd hc (by decide)
    · exact h0 h2
    · subst h1; exact absurd hc (by decide)
    · exact hd u hu h2
  · rcases h with ⟨h, -⟩ | ⟨u, hu, h, rfl⟩
    · cases h
    · have := dec_dig u c (by rw [← h]; simp)
      omega
theorem part_pos {v : Int} (c : UInt8) (r : List UInt8) (hc : c.toNat = 43) (h0 : r = [] → v = 1) (hd : ∀ u : Nat, u ≤ 1000 → r = Lib.decDigits u → v = (u : Int)) : ∀ b, Sec (c :: r) b ∨ Bare (c :: r) b → v = b := by
  rintro b (h | h)
  · rcases h with ⟨h, rfl⟩ | ⟨h, -⟩ | ⟨u, hu, ⟨h, rfl⟩ | ⟨h, -⟩⟩ <;> injection h with h1 h2
    · exact h0 h2
    · subst h1; exact absurd hc (by decide)
    · exact hd u hu h2
    · subst h1; exact absurd hc (by decide)
  · rcases h with ⟨h, -⟩ | ⟨u, hu, h, rfl⟩
    · cases h
    · have := dec_dig u c (by rw [← h]; simp)
      omega
set_option maxRecDepth 100000 in
set_option maxHeartbeats 1000000 in
theorem l1Part (s : ByteArray) (w : World) (hs : s.size ≤ 281474976710656) :
    Calls Tryd.prog 26 #[.string s] w fun e w' => PartIs s.data.toList e ∧ Below w.heap.size w w' := by
  obtain ⟨⟨l⟩⟩ := s
  cases l with
  | nil =>
    go_enter Tryd.func26, Tryd.ntmps26
    go_wp2_with fail
    go_returns
    refine ⟨⟨1, rfl, ?_⟩, Below.refl _ _⟩
    rintro b (h | h)
    · rcases h with ⟨h, -⟩ | ⟨h, -⟩ | ⟨u, -, ⟨h, -⟩ | ⟨h, -⟩⟩ <;> cases h
    · rcases h with ⟨-, rfl⟩ | ⟨u, -, h, -⟩
      · rfl
      · exact absurd h.symm (dec_ne u)
  | cons c r =>
    have hs0 : ∀ h : 0 < (ByteArray.mk (Array.mk (c :: r))).size, (ByteArray.mk (Array.mk (c :: r)))[0]'h = c := fun _ => rfl
    by_cases h45 : c.toNat = 45
    · cases r with
      | nil =>
        go_enter Tryd.func26, Tryd.ntmps26
        go_wp2_with fail
        go_returns
        refine ⟨⟨(-1), rfl, part_neg c [] h45 (fun _ => rfl) (fun u hu h => absurd h.symm (dec_ne u))⟩, Below.refl _ _⟩
      | cons d q =>
        have hex : (ByteArray.mk (Array.mk (c :: d :: q))).extract 1 (q.length + 1 + 1) = ByteArray.mk (Array.mk (d :: q)) := by
          ext1; simp
        have hem : ((ByteArray.mk (Array.mk (c :: d :: q))).extract 1 (q.length + 1 + 1)).toList.isEmpty = false := by rw [hex, Lib.toList_data]; rfl
        go_enter Tryd.func26, Tryd.ntmps26
        go_wp2_with fail
        refine (l1Digits _ _ (by have h : (c :: d :: q).length ≤ 281474976710656 := hs; show (d :: q).length ≤ 281474976710656; simp only [List.length_cons] at h ⊢; omega)).mono ?_
        rintro e w1 ⟨⟨v1, rfl, hv1, hv2, hv3⟩, hb1⟩
        have HV := Lib.hid hv3
        clear hv3
        have hw1 : IntKind.i64.wrap (-1 * v1) = -1 * v1 := IntWalk.i64_in _ (by omega)
        go_wp2_with fail
        go_returns
        refine ⟨⟨_, rfl, part_neg c (d :: q) h45 (fun h => by cases h) (fun u hu h => by have := HV.out u hu h; omega)⟩, hb1⟩
    · by_cases h43 : c.toNat = 43
      · cases r with
        | nil =>
          go_enter Tryd.func26, Tryd.ntmps26
          go_wp2_with fail
          go_returns
          refine ⟨⟨1, rfl, part_pos c [] h43 (fun _ => rfl) (fun u hu h => absurd h.symm (dec_ne u))⟩, Below.refl _ _⟩
        | cons d q =>
          have hex : (ByteArray.mk (Array.mk (c :: d :: q))).extract 1 (q.length + 1 + 1) = ByteArray.mk (Array.mk (d :: q)) := by
            ext1; simp
          have hem : ((ByteArray.mk (Array.mk (c :: d :: q))).extract 1 (q.length + 1 + 1)).toList.isEmpty = false := by rw [hex, Lib.toList_data]; rfl
          go_enter Tryd.func26, Tryd.ntmps26
          go_wp2_with fail
          refine (l1Digits _ _ (by have h : (c :: d :: q).length ≤ 281474976710656 := hs; show (d :: q).length ≤ 281474976710656; simp only [List.length_cons] at h ⊢; omega)).mono ?_
          rintro e w1 ⟨⟨v1, rfl, hv1, hv2, hv3⟩, hb1⟩
          have HV := Lib.hid hv3
          clear hv3
          have hw1 : IntKind.i64.wrap (1 * v1) = 1 * v1 := IntWalk.i64_in _ (by omega)
          go_wp2_with fail
          go_returns
          refine ⟨⟨_, rfl, part_pos c (d :: q) h43 (fun h => by cases h) (fun u hu h => by have := HV.out u hu h; omega)⟩, hb1⟩
      · have b1 : ((c.toNat : Int) == 45) = false := by simp; omega
        have b2 : ((c.toNat : Int) == 43) = false := by simp; omega
        have hem : (ByteArray.mk (Array.mk (c :: r))).toList.isEmpty = false := by rw [Lib.toList_data]; rfl
        go_enter Tryd.func26, Tryd.ntmps26
        go_wp2_with fail
        refine (l1Digits _ _ hs).mono ?_
        rintro e w1 ⟨⟨v1, rfl, hv1, hv2, hv3⟩, hb1⟩
        have HV := Lib.hid hv3
        clear hv3
        have hw1 : IntKind.i64.wrap (1 * v1) = 1 * v1 := IntWalk.i64_in _ (by omega)
        go_wp2_with fail
        go_returns
        refine ⟨⟨_, rfl, ?_⟩, hb1⟩
        rintro b (h | h)
        · rcases h with ⟨h, -⟩ | ⟨h, -⟩ | ⟨u, -, ⟨h, -⟩ | ⟨h, -⟩⟩ <;> injection h with h <;> subst h
          · exact absurd rfl h43
          · exact absurd rfl h45
          · exact absurd rfl h43
          · exact absurd rfl h45
        · rcases h with ⟨h, -⟩ | ⟨u, hu, h, rfl⟩
          · cases h
          · have := HV.out u hu h; omega
end Go.Proofs.YtpiifcgjdfkhaaaDoor
