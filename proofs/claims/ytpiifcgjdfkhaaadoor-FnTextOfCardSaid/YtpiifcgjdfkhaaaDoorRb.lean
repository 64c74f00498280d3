import Derived.Test.YtpiifcgjdfkhaaaDoorRa
import Derived.Lib.TrimU
import Derived.Lib.TrimAscii
import Derived.Handy
import Derived.Shelf.Unicode.DecodeSlow
namespace Go.Proofs.YtpiifcgjdfkhaaaDoor
open Go Go.RowKit
attribute [local go_sem] World.cell?_alloc_some cell?_alloc2_some cell?_alloc3_some cell?_alloc4_some frozen?_alloc_some frozen?_alloc2_some frozen?_alloc3_some World.cell?_setCell_far new_ne0 new_ne1 new_ne2 new_ne3 lt2 lt3 lt4 lt5 lt6 lt7 lt8 lt9
def isPm (b : UInt8) : Bool := b == 43 || b == 45
def LastPm (l : List UInt8) (k : Int) : Prop := (k = -1 ∧ ∀ b ∈ l, isPm b = false) ∨ ∃ pre c post, l = pre ++ c :: post ∧ isPm c = true ∧ (∀ b ∈ post, isPm b = false) ∧ k = (pre.length : Int)
def LastIs (l : List UInt8) (e : Ending) : Prop := ∃ k : Int, e = .returned (.int .i64 k) ∧ -1 ≤ k ∧ k < l.length ∧ ((∀ b ∈ l, b.toNat < 128) → LastPm l k)
theorem pmAt_isPm (x : UInt8) : (pmAt x.toNat < 0) ↔ isPm x = false := by
  have h1 : (x == 43) = decide (x.toNat = 43) := by rw [Bool.eq_iff_iff]; simp [← UInt8.toNat_inj]
  have h2 : (x == 45) = decide (x.toNat = 45) := by rw [Bool.eq_iff_iff]; simp [← UInt8.toNat_inj]
  unfold pmAt isPm
  rw [h1, h2]
  by_cases e1 : x.toNat = 43 <;> by_cases e2 : x.toNat = 45 <;> simp [e1, e2] <;> omega

set_option maxRecDepth 100000 in
set_option maxHeartbeats 1000000 in
theorem lastAny_1 (x : UInt8) (w : World) :
    Calls Tryd.prog 32 #[.string ⟨#[x]⟩, .string ⟨#[43, 45]⟩] w fun e w' => LastIs [x] e ∧ Below w.heap.size w w' := by
  have e1 : ∀ h : 0 < (ByteArray.mk #[x]).size, (ByteArray.mk #[x])[0]'h = x := fun _ => rfl
  have hl : x.toNat < 256 := x.toNat_lt
  have hw3 : wrap32 (x.toNat : Int) = x.toNat := IntWalk.wrap32_in _ (by omega)
  by_cases hx : x.toNat < 128
  · have hd : decide (128 ≤ (x.toNat : Int)) = false := by simp; omega
    have hy : ¬ (128 ≤ (x.toNat : Int)) := by omega
    go_enter Tryd.func32, Tryd.ntmps32
    go_wp2_with fail
    (refine (indexRune_pm _ _ (by omega) (by omega)).mono ?_; rintro e w1 ⟨⟨k1, rfl, hk⟩, hb1⟩; have hz1 := hb1.size; (repeat (first | rw [World.size_alloc] at hz1 | rw [World.size_setCell] at hz1 | rw [World.size_drew] at hz1)))
    obtain rfl := hk (by omega)
    by_cases hp : pmAt x.toNat < 0
    · have hq : decide (0 ≤ pmAt x.toNat) = false := by simp; omega
      go_wp2_with fail
      go_returns
      exact ⟨⟨-1, rfl, by omega, by simp, fun _ => .inl ⟨rfl, by simp [(pmAt_isPm x).1 hp]⟩⟩, hb1⟩
    · have hq : decide (0 ≤ pmAt x.toNat) = true := by simp; omega
      go_wp2_with fail
      go_returns
      exact ⟨⟨0, rfl, by omega, by simp, fun _ => .inr ⟨[], x, [], rfl, by rw [← Bool.not_eq_false]; exact fun h => by have := (pmAt_isPm x).2 h; omega, by simp, rfl⟩⟩, hb1⟩
  · have hd : decide (128 ≤ (x.toNat : Int)) = true := by simp; omega
    have hy : (128 ≤ (x.toNat : Int)) := by omega
    go_enter Tryd.func32, Tryd.ntmps32
    go_wp2_with fail
    (refine (indexRune_pm _ _ (by omega) (by omega)).mono ?_; rintro e w1 ⟨⟨k1, rfl, hk⟩, hb1⟩; have hz1 := hb1.size; (repeat (first | rw [World.size_alloc] at hz1 | rw [World.size_setCell] at hz1 | rw [World.size_drew] at hz1)))
    by_cases hp : 0 ≤ k1
    · have hq : decide (0 ≤ k1) = true := by simp; omega
      go_wp2_with fail
      go_returns
      exact ⟨⟨0, rfl, by omega, by simp, fun h => absurd (h x (by simp)) hx⟩, hb1⟩
    · have hq : decide (0 ≤ k1) = false := by simp; omega
      go_wp2_with fail
      go_returns
      exact ⟨⟨-1, rfl, by omega, by simp, fun h => absurd (h x (by simp)) hx⟩, hb1⟩

theorem dlr (s : ByteArray) (k : Nat) (h0 : 0 < k) (hk : k ≤ s.size) :
    ∃ r z : Nat, Lib.decodeLastL (s.extract 0 k).data.toList = (r, z) ∧ 1 ≤ z ∧ z ≤ k ∧ r ≤ 1114111 ∧
      Hid ((∀ b ∈ s.data.toList, b.toNat < 128) → ∃ b, s.data.toList = s.data.toList.take (k - 1) ++ b :: s.data.toList.drop k ∧ s.data.toList.drop (k - 1) = b :: s.data.toList.drop k ∧ r = b.toNat ∧ z = 1) := by
  have e : (s.extract 0 k).data.toList = s.data.toList.take k := by simp
  have hlen : s.data.toList.length = s.size := by simp
  rw [e]
  generalize s.data.toList = l at *
  have hw := Lib.decodeLastL_width (l.take k) (by simp; omega)
  have hr := Lib.decodeLastL_rune (l.take k)
  have hz : (l.take k).length ≤ k := List.length_take_le _ _
  have HA : (∀ b ∈ l, b.toNat < 128) → ∃ b, l = l.take (k - 1) ++ b :: l.drop k ∧ l.drop (k - 1) = b :: l.drop k ∧ (Lib.decodeLastL (l.take k)).1 = b.toNat ∧ (Lib.decodeLastL (l.take k)).2 = 1 := by
    intro ha
    have hd : l.drop (k - 1) = l[k - 1] :: l.drop k := by
      rw [List.drop_eq_getElem_cons (by omega)]
      congr 2; omega
    have ht : l.take k = l.take (k - 1) ++ [l[k - 1]] := by
      have := List.take_succ_eq_append_getElem (l := l) (i := k - 1) (by omega)
      rwa [Nat.sub_add_cancel h0] at this
    have h3 := Lib.decodeLastL_ascii (l.take (k - 1)) l[k - 1] (ha _ (List.getElem_mem _))
    rw [← ht] at h3
    exact ⟨l[k - 1], by rw [← hd, List.take_append_drop], hd, by rw [h3], by rw [h3]⟩
  generalize Lib.decodeLastL (l.take k) = p at *
  exact ⟨p.1, p.2, rfl, hw.1, by omega, hr, HA⟩
set_option maxRecDepth 100000 in
set_option maxHeartbeats 1000000 in
theorem lastAny_small (s : ByteArray) (w : World) (hn : s.size ≠ 1) (h8 : s.size ≤ 8) (hT : Lib.Utf8Tabs 4 5 w) :
    Calls Tryd.prog 32 #[.string s, .string ⟨#[43, 45]⟩] w fun e w' => LastIs s.data.toList e ∧ Below w.heap.size w w' := by
  have hn1 : ((s.size : Int) == 1) = false := by simp; omega
  have hn2 : ¬ ((s.size : Int) = 1) := by omega
  have h9 : decide (8 < (s.size : Int)) = false := by simp; omega
  go_enter Tryd.func32, Tryd.ntmps32
  go_wp2_with fail
  refine (Tryd.strings_shouldUseASCIISet _ _).mono ?_
  rintro e w1 ⟨rfl, rfl⟩
  go_wp2_with fail
  go_loopw [13] (fun i wr => ∃ k : Nat, i = .int .i64 k ∧ k ≤ s.size ∧ Below w1.heap.size w1 wr ∧ Hid ((∀ b ∈ s.data.toList, b.toNat < 128) → ∀ b ∈ s.data.toList.drop k, isPm b = false)) (fun i _ => (intOf i).toNat)
  case atStart => exact ⟨s.size, rfl, Nat.le_refl _, Below.refl _ _, fun _ b hb => by rw [List.drop_eq_nil_of_le (by simp)] at hb; cases hb⟩
  case round =>
    obtain ⟨k, rfl, hk, hbr, HP⟩ := hrel
    have hzr := hbr.size
    by_cases h0 : 0 < k
    · go_wp2_with fail
      obtain ⟨r, z, er, z1, z2, r1, HZ⟩ := dlr s k h0 hk
      refine (Tryd.utf8_DecodeLastRuneInString (s.extract 0 k) wr (by simp; omega) (Utf8Tabs_below hT hbr)).mono ?_
      rintro e w2 ⟨rfl, hb2⟩
      have hz2 := hb2.size
      rw [er]
      clear er
      have hsub : ((k : Int) - z) = ((k - z : Nat) : Int) := by omega
      go_wp2_with fail
      (refine (indexRune_pm _ _ (by omega) (by omega)).mono ?_; rintro e w3 ⟨⟨k1, rfl, hk1⟩, hb3⟩; have hz3 := hb3.size; (repeat (first | rw [World.size_alloc] at hz3 | rw [World.size_setCell] at hz3 | rw [World.size_drew] at hz3)))
      have HK : Hid ((r : Int) < 128 → k1 = pmAt r) := hk1
      clear hk1 hsub
      have hbe : Below w1.heap.size w1 w3 := (hbr.trans (hb2.mono hzr)).trans (hb3.mono (by omega))
      by_cases hp : 0 ≤ k1
      · have hq : decide (0 ≤ k1) = true := by simp; omega
        go_wp2_with fail
        go_returns
        refine ⟨⟨((k - z : Nat) : Int), rfl, by omega, by simp; omega, fun ha => ?_⟩, hbe⟩
        obtain ⟨b, e1, e2, rfl, rfl⟩ := HZ.out ha
        have hb : b ∈ s.data.toList := by rw [e1]; simp
        have hpm := HK.out (by have := ha b hb; omega)
        refine .inr ⟨s.data.toList.take (k - 1), b, s.data.toList.drop k, e1, ?_, HP.out ha, by simp; omega⟩
        rw [← Bool.not_eq_false]
        intro h
        have := (pmAt_isPm b).2 h
        omega
      · have hq : decide (0 ≤ k1) = false := by simp; omega
        go_wp2_with fail
        go_roundw
        case rel =>
          refine ⟨k - z, rfl, by omega, hbe, fun ha => ?_⟩
          obtain ⟨b, e1, e2, rfl, rfl⟩ := HZ.out ha
          have hb : b ∈ s.data.toList := by rw [e1]; simp
          have hpm := HK.out (by have := ha b hb; omega)
          rw [e2]
          intro c hc
          rcases List.mem_cons.1 hc with rfl | hc
          · exact (pmAt_isPm c).1 (by omega)
          · exact HP.out ha c hc
        case measure => simp [intOf]; omega
    · obtain rfl : k = 0 := by omega
      go_wp2_with fail
      go_returns
      exact ⟨⟨-1, rfl, by omega, by omega, fun ha => .inl ⟨rfl, by simpa using HP.out ha⟩⟩, hbr⟩
end Go.Proofs.YtpiifcgjdfkhaaaDoor
