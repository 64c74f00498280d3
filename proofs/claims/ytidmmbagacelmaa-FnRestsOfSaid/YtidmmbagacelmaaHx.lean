import Derived.Test.YtidmmbagacelmaaHb
import Derived.BigRegion
namespace Go.Proofs.Ytidmmbagacelmaa
open Go Go.RowKit
attribute [local go_sem] World.cell?_alloc_some cell?_alloc2_some cell?_alloc3_some cell?_alloc4_some frozen?_alloc_some frozen?_alloc2_some frozen?_alloc3_some World.cell?_setCell_far new_ne0 new_ne1 new_ne2 new_ne3 lt2 lt3 lt4 lt5 lt6 lt7 lt8 lt9
def fiK (a b : Int) : Int := if fiP a b then 0 else if fiP (-b) a then 1 else if fiP (-a) (-b) then 2 else 3
def fiA (a b : Int) : Int := if gok a b then tuA (fiK a b) a b else 0
def fiB (a b : Int) : Int := if gok a b then tuB (fiK a b) a b else 0
def fiT (a b : Int) : Int := if gok a b then (4 - fiK a b) % 4 else -1
theorem fi_last {a b : Int} (p0 : fiP a b = false) (p1 : fiP (-b) a = false) (p2 : fiP (-a) (-b) = false) : fiP b (-a) = true := by
  simp [fiP] at *; omega
theorem fi_0 {a b : Int} (k1 : gok a b = true) (p0 : fiP (a) (b) = true) : fiA a b = a ∧ fiB a b = b ∧ fiT a b = 0 ∧ gok a b = true := by
  have e : fiK a b = 0 := by simp [fiK, p0]
  simp [fiA, fiB, fiT, k1, e, tuA, tuB]
theorem fi_1 {a b : Int} (k1 : gok a b = true) (p0 : fiP (a) (b) = false) (p1 : fiP (-b) (a) = true) : fiA a b = -b ∧ fiB a b = a ∧ fiT a b = 3 ∧ gok a b = true := by
  have e : fiK a b = 1 := by simp [fiK, p0, p1]
  simp [fiA, fiB, fiT, k1, e, tuA, tuB]
theorem fi_2 {a b : Int} (k1 : gok a b = true) (p0 : fiP (a) (b) = false) (p1 : fiP (-b) (a) = false) (p2 : fiP (-a) (-b) = true) : fiA a b = -a ∧ fiB a b = -b ∧ fiT a b = 2 ∧ gok a b = true := by
  have e : fiK a b = 2 := by simp [fiK, p0, p1, p2]
  simp [fiA, fiB, fiT, k1, e, tuA, tuB]
theorem fi_3 {a b : Int} (k1 : gok a b = true) (p0 : fiP (a) (b) = false) (p1 : fiP (-b) (a) = false) (p2 : fiP (-a) (-b) = false) (_p3 : fiP (b) (-a) = true) : fiA a b = b ∧ fiB a b = -a ∧ fiT a b = 1 ∧ gok a b = true := by
  have e : fiK a b = 3 := by simp [fiK, p0, p1, p2]
  simp [fiA, fiB, fiT, k1, e, tuA, tuB]

end Go.Proofs.Ytidmmbagacelmaa
