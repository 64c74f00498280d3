import Derived.Test.YtggebkgfldmipaaHa
import Derived.Test.YtggebkgfldmipaaS
import Derived.Test.YtggebkgfldmipaaHx
namespace Go.Proofs.Ytggebkgfldmipaa
open Go Go.RowKit
attribute [local go_sem] World.cell?_alloc_some cell?_alloc2_some cell?_alloc3_some cell?_alloc4_some frozen?_alloc_some frozen?_alloc2_some frozen?_alloc3_some World.cell?_setCell_far new_ne0 new_ne1 new_ne2 new_ne3 lt2 lt3 lt4 lt5 lt6 lt7 lt8 lt9
theorem nrm_q {a b : Int} (k : gok a b = true) : nrm (-b) a = nrm a b ∧ nrm (-a) (-b) = nrm a b ∧ nrm b (-a) = nrm a b := by
  have h := gok_bd k
  have k1 : gok (-b) a = true := by simp [gok, pok]; omega
  have k2 : gok (-a) (-b) = true := by simp [gok, pok]; omega
  have k3 : gok b (-a) = true := by simp [gok, pok]; omega
  rw [nrm_t k, nrm_t k1, nrm_t k2, nrm_t k3]
  refine ⟨?_, ?_, ?_⟩ <;> grind
theorem gok_q {a b : Int} (k : gok a b = true) : gok (-b) a = true ∧ gok (-a) (-b) = true ∧ gok b (-a) = true := by
  have h := gok_bd k
  simp [gok, pok]; omega
theorem tb_0 {x y : Int} (k : gok x y = true) : trA 0 x y = x ∧ trB 0 x y = y := by simp [trA, trB, trO, k, tuA, tuB]
theorem bk_0 {x y : Int} (k : gok x y = true) : trA 0 (x) (y) = x ∧ trB 0 (x) (y) = y := by
  have g : gok (x) (y) = true := k
  simp [trA, trB, trO, g, tuA, tuB]
theorem tb_1 {x y : Int} (k : gok x y = true) : trA 1 x y = -y ∧ trB 1 x y = x := by simp [trA, trB, trO, k, tuA, tuB]
theorem bk_1 {x y : Int} (k : gok x y = true) : trA 3 (-y) (x) = x ∧ trB 3 (-y) (x) = y := by
  have g : gok (-y) (x) = true := (gok_q k).1
  simp [trA, trB, trO, g, tuA, tuB]
theorem tb_2 {x y : Int} (k : gok x y = true) : trA 2 x y = -x ∧ trB 2 x y = -y := by simp [trA, trB, trO, k, tuA, tuB]
theorem bk_2 {x y : Int} (k : gok x y = true) : trA 2 (-x) (-y) = x ∧ trB 2 (-x) (-y) = y := by
  have g : gok (-x) (-y) = true := (gok_q k).2.1
  simp [trA, trB, trO, g, tuA, tuB]
theorem tb_3 {x y : Int} (k : gok x y = true) : trA 3 x y = y ∧ trB 3 x y = -x := by simp [trA, trB, trO, k, tuA, tuB]
theorem bk_3 {x y : Int} (k : gok x y = true) : trA 1 (y) (-x) = x ∧ trB 1 (y) (-x) = y := by
  have g : gok (y) (-x) = true := (gok_q k).2.2
  simp [trA, trB, trO, g, tuA, tuB]

end Go.Proofs.Ytggebkgfldmipaa

namespace Go.Proofs.Ytggebkgfldmipaa
open Go Go.RowKit
attribute [local go_sem] World.cell?_alloc_some cell?_alloc2_some cell?_alloc3_some cell?_alloc4_some frozen?_alloc_some frozen?_alloc2_some frozen?_alloc3_some World.cell?_setCell_far new_ne0 new_ne1 new_ne2 new_ne3 lt2 lt3 lt4 lt5 lt6 lt7 lt8 lt9
theorem fi_is (a b : Int) : (fiP a b = true ∧ fiK a b = 0) ∨ (fiP a b = false ∧ fiP (-b) a = true ∧ fiK a b = 1) ∨ (fiP a b = false ∧ fiP (-b) a = false ∧ fiP (-a) (-b) = true ∧ fiK a b = 2) ∨ (fiP a b = false ∧ fiP (-b) a = false ∧ fiP (-a) (-b) = false ∧ fiK a b = 3) := by
  cases p0 : fiP a b
  · cases p1 : fiP (-b) a
    · cases p2 : fiP (-a) (-b)
      · simp [fiK, p0, p1, p2]
      · simp [fiK, p0, p1, p2]
    · simp [fiK, p0, p1]
  · simp [fiK, p0]
theorem tu_all (a b : Int) : tuA 0 a b = a ∧ tuB 0 a b = b ∧ tuA 1 a b = -b ∧ tuB 1 a b = a ∧ tuA 2 a b = -a ∧ tuB 2 a b = -b ∧ tuA 3 a b = b ∧ tuB 3 a b = -a := ⟨rfl, rfl, rfl, rfl, rfl, rfl, rfl, rfl⟩
theorem fi_sum {x y : Int} (k : gok x y = true) : ∃ p q t, gok p q = true ∧ fiA x y = p ∧ fiB x y = q ∧ fiT x y = t ∧ 0 ≤ t ∧ t ≤ 3 ∧ (0 < p ∧ 0 ≤ q ∨ p = 0 ∧ q = 0) ∧ trA t p q = x ∧ trB t p q = y ∧ fiA p q = p ∧ fiB p q = q ∧ fiT p q = 0 := by
  have hb := gok_bd k
  rcases fi_is x y with ⟨p0, e⟩ | ⟨p0, p1, e⟩ | ⟨p0, p1, p2, e⟩ | ⟨p0, p1, p2, e⟩
  · have g : gok (x) (y) = true := k
    have hp : fiP (x) (y) = true := p0
    refine ⟨x, y, 0, g, by simp [fiA, k, e, tuA], by simp [fiB, k, e, tuB], by simp [fiT, k, e], by omega, by omega, by simpa [fiP] using hp, (bk_0 k).1, (bk_0 k).2, ?_⟩
    simp [fiA, fiB, fiT, g, fiK, hp, tuA, tuB]
  · have g : gok (-y) (x) = true := (gok_q k).1
    have hp : fiP (-y) (x) = true := p1
    refine ⟨-y, x, 3, g, by simp [fiA, k, e, tuA], by simp [fiB, k, e, tuB], by simp [fiT, k, e], by omega, by omega, by simpa [fiP] using hp, (bk_1 k).1, (bk_1 k).2, ?_⟩
    simp [fiA, fiB, fiT, g, fiK, hp, tuA, tuB]
  · have g : gok (-x) (-y) = true := (gok_q k).2.1
    have hp : fiP (-x) (-y) = true := p2
    refine ⟨-x, -y, 2, g, by simp [fiA, k, e, tuA], by simp [fiB, k, e, tuB], by simp [fiT, k, e], by omega, by omega, by simpa [fiP] using hp, (bk_2 k).1, (bk_2 k).2, ?_⟩
    simp [fiA, fiB, fiT, g, fiK, hp, tuA, tuB]
  · have g : gok (y) (-x) = true := (gok_q k).2.2
    have hp : fiP (y) (-x) = true := (fi_last p0 p1 p2)
    refine ⟨y, -x, 1, g, by simp [fiA, k, e, tuA], by simp [fiB, k, e, tuB], by simp [fiT, k, e], by omega, by omega, by simpa [fiP] using hp, (bk_3 k).1, (bk_3 k).2, ?_⟩
    simp [fiA, fiB, fiT, g, fiK, hp, tuA, tuB]

end Go.Proofs.Ytggebkgfldmipaa
