import Derived.Test.YtpiifcgjdfkhaaaDoorRb
import Derived.Shelf.Strings.IndexAnyAll
namespace Go.Proofs.YtpiifcgjdfkhaaaDoor
open Go Go.RowKit
attribute [local go_sem] World.cell?_alloc_some cell?_alloc2_some cell?_alloc3_some cell?_alloc4_some frozen?_alloc_some frozen?_alloc2_some frozen?_alloc3_some World.cell?_setCell_far new_ne0 new_ne1 new_ne2 new_ne3 lt2 lt3 lt4 lt5 lt6 lt7 lt8 lt9
theorem pmSet (x : UInt8) : ([43, 45] : List UInt8).contains x = isPm x := by
  unfold isPm
  by_cases h1 : x = 43 <;> by_cases h2 : x = 45 <;> simp [h1, h2]
set_option maxRecDepth 1000000 in
set_option maxHeartbeats 2000000 in
theorem lastAny_big (s : ByteArray) (w : World) (h8 : 8 < s.size) (hs : s.size ≤ 9223372036854775807) :
    Calls Tryd.prog 32 #[.string s, .string ⟨#[43, 45]⟩] w fun e w' => LastIs s.data.toList e ∧ Below w.heap.size w w' := by
  have h116 : (Tryd.prog.info? 63).map (fun i => (i.zero, i.size)) = some (some (.agg (Array.replicate 256 (.bool false))), 256) := by kernel_rfl
  have z63 := (zero_of_info h116).1
  have hi := (zero_of_info h116).2
  have hM := Tryd.strings_makeASCIISet z63 ⟨#[43, 45]⟩ w (by decide) (fun j b h => by have : b ∈ ([43, 45] : List UInt8) := List.mem_of_getElem? h; simp at this; rcases this with rfl | rfl <;> decide)
  have hn1 : ((s.size : Int) == 1) = false := by simp; omega
  have hn2 : ¬ ((s.size : Int) = 1) := by omega
  have h9 : decide (8 < (s.size : Int)) = true := by simp; omega
  have hsz := Lib.setCells_size [43, 45]
  have hone := Lib.setCells_one [43, 45]
  have hat := Lib.setCells_at [43, 45]
  have hM' : Calls Tryd.prog 41 #[.string ⟨#[43, 45]⟩] w fun e w' => e = .returned (.tuple #[.agg (Lib.setCells [43, 45]), .bool true]) ∧ w' = w.alloc (.cells (Lib.setCells [43, 45]) 63) := hM
  clear hM
  generalize Lib.setCells [43, 45] = S at *
  have hsc : (storeCells ⟨w.heap.size + 1, 0, none⟩ S.toList 0).run Tryd.prog ((w.alloc (.cells S 63)).alloc (.cells (Array.replicate 256 (.bool false)) 63)) = .ok () ((w.alloc (.cells S 63)).alloc (.cells S 63)) := by
    have := run_storeCells_new (P := Tryd.prog) (w.alloc (.cells S 63)) 63 (Array.replicate 256 (.bool false)) S (by rw [hsz]; exact hi) (by rw [hsz, Array.size_replicate]) hone
    simpa using this
  have HC : Aside (∀ x : UInt8, ((w.alloc (.cells S 63)).alloc (.cells S 63)).cell? ⟨w.heap.size + 1, x.toNat, none⟩ = some (.bool (isPm x))) := fun x => by
    rw [World.cell?_alloc_at _ _ _ _ (by simp), hat, pmSet]
  clear hat hone h116
  go_enter Tryd.func32, Tryd.ntmps32
  go_wp2_with fail
  refine (Tryd.strings_shouldUseASCIISet _ _).mono ?_
  rintro e w1 ⟨rfl, hw⟩
  rw [hw]
  clear hw w1
  go_wp2_with fail
  refine hM'.mono ?_
  rintro e w1 ⟨rfl, hw⟩
  rw [hw]
  clear hw w1
  go_wp2_with fail
  clear hM' hsc z63 hi hn1 hn2 h9
  go_loop [8] (fun i => ∃ k : Nat, i = .int .i64 ((k : Int) - 1) ∧ k ≤ s.size ∧ Hid (∀ b ∈ s.data.toList.drop k, isPm b = false)) (fun i => (intOf i + 1).toNat)
  case atStart => exact ⟨s.size, rfl, Nat.le_refl _, fun b hb => by rw [List.drop_eq_nil_of_le (by simp)] at hb; cases hb⟩
  case round =>
    obtain ⟨k, rfl, hk, HP⟩ := hrel
    by_cases h0 : 0 < k
    · obtain ⟨k, rfl⟩ : ∃ j, k = j + 1 := ⟨k - 1, by omega⟩
      have e1 : ((k + 1 : Nat) : Int) - 1 = (k : Int) := by omega
      rw [e1]
      clear e1
      go_wp2_with fail
      have hlen : s.data.toList.length = s.size := by simp
      have hdr : s.data.toList.drop k = s[k] :: s.data.toList.drop (k + 1) := List.drop_eq_getElem_cons (by omega)
      have HD : Hid (s.data.toList.drop k = s[k] :: s.data.toList.drop (k + 1)) := hdr
      have HS : Hid (s.data.toList = s.data.toList.take k ++ s[k] :: s.data.toList.drop (k + 1)) := by show _ = _; rw [← hdr, List.take_append_drop]
      clear hdr
      refine (Tryd.asciiSet_contains _ _ _ _ (HC.out s[k])).mono ?_
      rintro e w1 ⟨rfl, hw⟩
      rw [hw]
      clear hw w1
      cases hb : isPm s[k]
      · have HB : Hid (isPm s[k] = false) := hb
        clear hb
        go_wp2_with fail
        go_round
        case rel =>
          refine ⟨k, rfl, by omega, ?_⟩
          show ∀ b ∈ s.data.toList.drop k, isPm b = false
          rw [HD.out]
          intro c hc
          rcases List.mem_cons.1 hc with rfl | hc
          · exact HB.out
          · exact HP.out c hc
        case measure => simp [intOf]
      · have HB : Hid (isPm s[k] = true) := hb
        clear hb
        go_wp2_with fail
        go_returns
        exact ⟨⟨(k : Int), rfl, by omega, by omega, fun _ => .inr ⟨_, _, _, HS.out, HB.out, HP.out, by simp [List.length_take]; omega⟩⟩, by (repeat' (first | (with_reducible exact Below.refl _ _) | (with_reducible refine Below.alloc ?_ ?_ _) | (with_reducible refine Below.drew ?_) | (with_reducible refine Below.setCell ?_ ?_ _) | (with_reducible refine Below.trans ?_ (Below.mono (by assumption) ?_)) | go_size))⟩
    · obtain rfl : k = 0 := by omega
      go_wp2_with fail
      go_returns
      exact ⟨⟨-1, rfl, by omega, by omega, fun _ => .inl ⟨rfl, by simpa using HP.out⟩⟩, by (repeat' (first | (with_reducible exact Below.refl _ _) | (with_reducible refine Below.alloc ?_ ?_ _) | (with_reducible refine Below.drew ?_) | (with_reducible refine Below.setCell ?_ ?_ _) | (with_reducible refine Below.trans ?_ (Below.mono (by assumption) ?_)) | go_size))⟩
theorem lastAny (s : ByteArray) (w : World) (hs : s.size ≤ 9223372036854775807) (hT : Lib.Utf8Tabs 4 5 w) :
    Calls Tryd.prog 32 #[.string s, .string ⟨#[43, 45]⟩] w fun e w' => LastIs s.data.toList e ∧ Below w.heap.size w w' := by
  by_cases h1 : s.size = 1
  · obtain ⟨x, rfl⟩ : ∃ x, s = ⟨#[x]⟩ := by
      obtain ⟨⟨l⟩⟩ := s
      match l, h1 with
      | [x], _ => exact ⟨x, rfl⟩
    exact lastAny_1 x w
  · by_cases h8 : s.size ≤ 8
    · exact lastAny_small s w h1 h8 hT
    · exact lastAny_big s w (by omega) hs
end Go.Proofs.YtpiifcgjdfkhaaaDoor
