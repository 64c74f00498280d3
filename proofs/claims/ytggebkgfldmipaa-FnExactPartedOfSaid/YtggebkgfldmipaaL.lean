import Derived.Test.YtggebkgfldmipaaBase
import Derived.Test.YtggebkgfldmipaaN
import Derived.Deep.RegionHeld3
import Derived.Deep.DeepCutAuto
namespace Go.Proofs.Ytggebkgfldmipaa
open Go Go.RowKit
theorem cell?_alloc_lt (w : World) (a : Addr) (o : Obj) (h : a.block < w.heap.size) : (w.alloc o).cell? a = w.cell? a := World.cell?_alloc_old _ _ _ (Nat.ne_of_lt h)
theorem frozen?_alloc_lt (w : World) (a : Addr) (o : Obj) (h : a.block < w.heap.size) : (w.alloc o).frozen? a = w.frozen? a := World.frozen?_alloc_old _ _ _ (Nat.ne_of_lt h)
theorem lt10 (n : Nat) : n < n + 1 + 1 + 1 + 1 + 1 + 1 + 1 + 1 + 1 + 1 := by omega
/-- A block that is there when a call begins, without conditions: for simp's discharger, which goes two steps deep. -/
theorem carry1 {W w1 : World} {b : Nat} (hb : Below W.heap.size W w1) (h : b < W.heap.size) :
    (w1.cell? ⟨b, 0, none⟩ = W.cell? ⟨b, 0, none⟩ ∧ w1.cell? ⟨b, 1, none⟩ = W.cell? ⟨b, 1, none⟩ ∧ w1.frozen? ⟨b, 0, none⟩ = W.frozen? ⟨b, 0, none⟩ ∧ w1.frozen? ⟨b, 1, none⟩ = W.frozen? ⟨b, 1, none⟩) ∧
    (∀ z, (w1.alloc z).cell? ⟨b, 0, none⟩ = W.cell? ⟨b, 0, none⟩ ∧ (w1.alloc z).cell? ⟨b, 1, none⟩ = W.cell? ⟨b, 1, none⟩ ∧ (w1.alloc z).frozen? ⟨b, 0, none⟩ = W.frozen? ⟨b, 0, none⟩ ∧ (w1.alloc z).frozen? ⟨b, 1, none⟩ = W.frozen? ⟨b, 1, none⟩) ∧
    (w1.heap.size = b) = False ∧ (b = w1.heap.size) = False := by
  have hs := hb.size
  have h1 : b < w1.heap.size := by omega
  refine ⟨⟨hb.cell h, hb.cell h, hb.frozen h, hb.frozen h⟩, fun z => ⟨?_, ?_, ?_, ?_⟩, by simp; omega, by simp; omega⟩
  · rw [cell?_alloc_lt _ _ _ h1]; exact hb.cell h
  · rw [cell?_alloc_lt _ _ _ h1]; exact hb.cell h
  · rw [frozen?_alloc_lt _ _ _ h1]; exact hb.frozen h
  · rw [frozen?_alloc_lt _ _ _ h1]; exact hb.frozen h
end Go.Proofs.Ytggebkgfldmipaa

namespace Go.Proofs.Ytggebkgfldmipaa
open Go Go.RowKit
attribute [local go_sem] World.cell?_alloc_some cell?_alloc2_some cell?_alloc3_some cell?_alloc4_some frozen?_alloc_some frozen?_alloc2_some frozen?_alloc3_some World.cell?_setCell_far new_ne0 new_ne1 new_ne2 new_ne3 lt2 lt3 lt4 lt5 lt6 lt7 lt8 lt9
theorem toGauss (a b : Int) (w : World) : Calls Try.prog 31 #[.agg #[.int .i64 a, .int .i64 b]] w fun e w' => e = .returned (.agg #[.int .i64 a, .int .i64 b]) ∧ Below w.heap.size w w' := by
  go_enter Try.func31, Try.ntmps31
  go_wp2_with fail
  go_returns
  exact ⟨rfl, blA⟩
theorem eqGauss_t (a b : Int) (w : World) : Calls Try.prog 32 #[.agg #[.int .i64 a, .int .i64 b], .agg #[.int .i64 a, .int .i64 b]] w fun e w' => e = .returned (.bool true) ∧ Below w.heap.size w w' := by
  go_enter Try.func32, Try.ntmps32
  go_wp2_with fail
  go_returns
  exact ⟨rfl, blA⟩
end Go.Proofs.Ytggebkgfldmipaa
