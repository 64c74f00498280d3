import Derived.Test.YtidmmbagacelmaaBase
namespace Go.Proofs.Ytidmmbagacelmaa
open Go Go.RowKit
theorem cell?_alloc_lt (w : World) (a : Addr) (o : Obj) (h : a.block < w.heap.size) : (w.alloc o).cell? a = w.cell? a := World.cell?_alloc_old _ _ _ (Nat.ne_of_lt h)
theorem frozen?_alloc_lt (w : World) (a : Addr) (o : Obj) (h : a.block < w.heap.size) : (w.alloc o).frozen? a = w.frozen? a := World.frozen?_alloc_old _ _ _ (Nat.ne_of_lt h)
theorem lt10 (n : Nat) : n < n + 1 + 1 + 1 + 1 + 1 + 1 + 1 + 1 + 1 + 1 := by omega
/-- A block that is there when a call begins, without conditions: for simp's discharger, which goes two steps deep. -/
theorem carry1 {W w1 : World} {b : Nat} (hb : Below W.heap.size W w1) (h : b < W.heap.size) :
    (w1.cell? ⟨b, 0, none⟩ = W.cell? ⟨b, 0, none⟩ ∧ w1.cell? ⟨b, 1, none⟩ = W.cell? ⟨b, 1, none⟩ ∧ w1.frozen? ⟨b, 0, none⟩ = W.frozen? ⟨b, 0, none⟩ ∧ w1.frozen? ⟨b, 1, none⟩ = W.frozen? ⟨b, 1, none⟩) ∧
    (∀ z, (w1.alloc z).cell? ⟨b, 0, none⟩ = W.cell? ⟨b, 0, none⟩ ∧ (w1.alloc z).cell? ⟨b, 1, none⟩ = W.cell? ⟨b, 1, none⟩ ∧ (w1.alloc z).frozen? ⟨b, 0, none⟩ = W.frozen? ⟨b, 0, none⟩ ∧ (w1.alloc z).frozen? ⟨b, 1, none⟩ = W.frozen? ⟨b, 1, none⟩) ∧
    (w1.heap.size = b) = False ∧ (b = w1.heap.size) = False := by
  have hs := hb.size
  have h1 : b < w1.heap.size := by omega
  refine ⟨⟨hb.cell h, hb.cell h, hb.frozen h, hb.frozen h⟩, fun z => ⟨?_, ?_, ?_, ?_⟩, by simp; omega, by simp; omega⟩
  · rw [cell?_alloc_lt _ _ _ h1]; exact hb.cell h
  · rw [cell?_alloc_lt _ _ _ h1]; exact hb.cell h
  · rw [frozen?_alloc_lt _ _ _ h1]; exact hb.frozen h
  · rw [frozen?_alloc_lt _ _ _ h1]; exact hb.frozen h
end Go.Proofs.Ytidmmbagacelmaa
