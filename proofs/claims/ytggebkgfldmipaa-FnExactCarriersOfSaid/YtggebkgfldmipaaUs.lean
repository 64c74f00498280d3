import Derived.Test.YtggebkgfldmipaaS
namespace Go.Proofs.Ytggebkgfldmipaa
open Go Go.RowKit
theorem plO_val {a b c d : Int} (h : plO a b c d = true) : plA a b c d = a + c ∧ plB a b c d = b + d ∧ gok a b = true ∧ gok c d = true ∧ gok (a + c) (b + d) = true := by
  have h' := h
  simp only [plO, Bool.and_eq_true] at h'
  obtain ⟨t1, t2, t3⟩ := plO_t h'.1.1 h'.1.2 h'.2
  exact ⟨t2, t3, h'.1.1, h'.1.2, h'.2⟩
theorem tiO_val {a b c d : Int} (h : tiO a b c d = true) : tiA a b c d = a * c - b * d ∧ tiB a b c d = a * d + b * c ∧ gok a b = true ∧ gok c d = true ∧ gok (a * c - b * d) (a * d + b * c) = true := by
  have h' := h
  simp only [tiO, Bool.and_eq_true] at h'
  obtain ⟨t1, t2, t3⟩ := tiO_t h'.1.1 h'.1.2 h'.2
  exact ⟨t2, t3, h'.1.1, h'.1.2, h'.2⟩
/-- What a sum, a product comes to. -/
def PlIs (a b c d : Int) (o : Bool) (x y : Int) : Prop := plO a b c d = o ∧ plA a b c d = x ∧ plB a b c d = y
def TiIs (a b c d : Int) (o : Bool) (x y : Int) : Prop := tiO a b c d = o ∧ tiA a b c d = x ∧ tiB a b c d = y
theorem pl_is (a b c d : Int) : ∃ o x y, PlIs a b c d o x y := ⟨_, _, _, rfl, rfl, rfl⟩
theorem ti_is (a b c d : Int) : ∃ o x y, TiIs a b c d o x y := ⟨_, _, _, rfl, rfl, rfl⟩
theorem PlIs.val {a b c d x y : Int} (h : PlIs a b c d true x y) : x = a + c ∧ y = b + d ∧ gok a b = true ∧ gok c d = true ∧ gok x y = true := by
  obtain ⟨h1, h2, h3⟩ := h
  obtain ⟨e1, e2, e3, e4, e5⟩ := plO_val h1
  refine ⟨by omega, by omega, e3, e4, ?_⟩
  rw [← h2, ← h3, e1, e2]; exact e5
theorem TiIs.val {a b c d x y : Int} (h : TiIs a b c d true x y) : x = a * c - b * d ∧ y = a * d + b * c ∧ gok a b = true ∧ gok c d = true ∧ gok x y = true := by
  obtain ⟨h1, h2, h3⟩ := h
  obtain ⟨e1, e2, e3, e4, e5⟩ := tiO_val h1
  refine ⟨by rw [← h2, e1], by rw [← h3, e2], e3, e4, ?_⟩
  rw [← h2, ← h3, e1, e2]; exact e5
theorem PlIs.none {a b c d x y : Int} (h : PlIs a b c d false x y) : x = 0 ∧ y = 0 := by
  obtain ⟨h1, h2, h3⟩ := h
  simp only [plA, plB, h1] at h2 h3
  exact ⟨h2.symm, h3.symm⟩
theorem TiIs.none {a b c d x y : Int} (h : TiIs a b c d false x y) : x = 0 ∧ y = 0 := by
  obtain ⟨h1, h2, h3⟩ := h
  simp only [tiA, tiB, h1] at h2 h3
  exact ⟨h2.symm, h3.symm⟩
theorem PlIs.mk {a b c d : Int} (k1 : gok a b = true) (k2 : gok c d = true) (k3 : gok (a + c) (b + d) = true) : PlIs a b c d true (a + c) (b + d) := plO_t k1 k2 k3
theorem TiIs.mk {a b c d : Int} (k1 : gok a b = true) (k2 : gok c d = true) (k3 : gok (a * c - b * d) (a * d + b * c) = true) : TiIs a b c d true (a * c - b * d) (a * d + b * c) := tiO_t k1 k2 k3
theorem PlIs.swap {a b c d x y : Int} (h : PlIs a b c d true x y) : PlIs c d a b true x y := by
  obtain ⟨rfl, rfl, k1, k2, k3⟩ := h.val
  have := PlIs.mk k2 k1 (by rw [Int.add_comm c, Int.add_comm d]; exact k3)
  rwa [Int.add_comm c, Int.add_comm d] at this
theorem TiIs.swap {a b c d x y : Int} (h : TiIs a b c d true x y) : TiIs c d a b true x y := by
  obtain ⟨rfl, rfl, k1, k2, k3⟩ := h.val
  have e1 : c * a - d * b = a * c - b * d := by grind
  have e2 : c * b + d * a = a * d + b * c := by grind
  have := TiIs.mk k2 k1 (by rw [e1, e2]; exact k3)
  rwa [e1, e2] at this
/-- Sums in any brackets; products in any brackets, and over sums. -/
theorem pl_assoc {a b c d e f x y lA lB mA mB rA rB : Int} (h : PlIs a b c d true x y) (hl : PlIs x y e f true lA lB) (hm : PlIs c d e f true mA mB) (hr : PlIs a b mA mB true rA rB) : rA = lA ∧ rB = lB := by
  have := h.val; have := hl.val; have := hm.val; have := hr.val; omega
theorem ti_assoc {a b c d e f x y lA lB mA mB rA rB : Int} (h : TiIs a b c d true x y) (hl : TiIs x y e f true lA lB) (hm : TiIs c d e f true mA mB) (hr : TiIs a b mA mB true rA rB) : rA = lA ∧ rB = lB := by
  obtain ⟨rfl, rfl, -⟩ := h.val
  obtain ⟨rfl, rfl, -⟩ := hl.val
  obtain ⟨rfl, rfl, -⟩ := hm.val
  obtain ⟨rfl, rfl, -⟩ := hr.val
  constructor <;> grind
theorem ti_over {a b c d e f x y sA sB hA hB oA oB uA uB : Int} (h : TiIs a b c d true x y) (hs : PlIs c d e f true sA sB) (hh : TiIs a b sA sB true hA hB) (ho : TiIs a b e f true oA oB) (hu : PlIs x y oA oB true uA uB) : uA = hA ∧ uB = hB := by
  obtain ⟨rfl, rfl, -⟩ := h.val
  obtain ⟨rfl, rfl, -⟩ := hs.val
  obtain ⟨rfl, rfl, -⟩ := hh.val
  obtain ⟨rfl, rfl, -⟩ := ho.val
  obtain ⟨rfl, rfl, -⟩ := hu.val
  constructor <;> grind
end Go.Proofs.Ytggebkgfldmipaa
