import Derived.Test.YtpjememmogaeiaaHa
import Derived.Test.YtpjememmogaeiaaS
namespace Go.Proofs.Ytpjememmogaeiaa
open Go Go.RowKit
attribute [local go_sem] World.cell?_alloc_some cell?_alloc2_some cell?_alloc3_some cell?_alloc4_some frozen?_alloc_some frozen?_alloc2_some frozen?_alloc3_some World.cell?_setCell_far new_ne0 new_ne1 new_ne2 new_ne3 lt2 lt3 lt4 lt5 lt6 lt7 lt8 lt9
theorem nrm_q {a b : Int} (k : gok a b = true) : nrm (-b) a = nrm a b ∧ nrm (-a) (-b) = nrm a b ∧ nrm b (-a) = nrm a b := by
  have h := gok_bd k
  have k1 : gok (-b) a = true := by simp [gok, pok]; omega
  have k2 : gok (-a) (-b) = true := by simp [gok, pok]; omega
  have k3 : gok b (-a) = true := by simp [gok, pok]; omega
  rw [nrm_t k, nrm_t k1, nrm_t k2, nrm_t k3]
  refine ⟨?_, ?_, ?_⟩ <;> grind
theorem gok_q {a b : Int} (k : gok a b = true) : gok (-b) a = true ∧ gok (-a) (-b) = true ∧ gok b (-a) = true := by
  have h := gok_bd k
  simp [gok, pok]; omega
theorem tb_0 {x y : Int} (k : gok x y = true) : trA 0 x y = x ∧ trB 0 x y = y := by simp [trA, trB, trO, k, tuA, tuB]
theorem bk_0 {x y : Int} (k : gok x y = true) : trA 0 (x) (y) = x ∧ trB 0 (x) (y) = y := by
  have g : gok (x) (y) = true := k
  simp [trA, trB, trO, g, tuA, tuB]
theorem tb_1 {x y : Int} (k : gok x y = true) : trA 1 x y = -y ∧ trB 1 x y = x := by simp [trA, trB, trO, k, tuA, tuB]
theorem bk_1 {x y : Int} (k : gok x y = true) : trA 3 (-y) (x) = x ∧ trB 3 (-y) (x) = y := by
  have g : gok (-y) (x) = true := (gok_q k).1
  simp [trA, trB, trO, g, tuA, tuB]
theorem tb_2 {x y : Int} (k : gok x y = true) : trA 2 x y = -x ∧ trB 2 x y = -y := by simp [trA, trB, trO, k, tuA, tuB]
theorem bk_2 {x y : Int} (k : gok x y = true) : trA 2 (-x) (-y) = x ∧ trB 2 (-x) (-y) = y := by
  have g : gok (-x) (-y) = true := (gok_q k).2.1
  simp [trA, trB, trO, g, tuA, tuB]
theorem tb_3 {x y : Int} (k : gok x y = true) : trA 3 x y = y ∧ trB 3 x y = -x := by simp [trA, trB, trO, k, tuA, tuB]
theorem bk_3 {x y : Int} (k : gok x y = true) : trA 1 (y) (-x) = x ∧ trB 1 (y) (-x) = y := by
  have g : gok (y) (-x) = true := (gok_q k).2.2
  simp [trA, trB, trO, g, tuA, tuB]

end Go.Proofs.Ytpjememmogaeiaa
