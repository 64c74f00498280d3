import Derived.Test.YtidmmbagacelmaaPa
import Derived.Test.YtidmmbagacelmaaMf
import Derived.Test.YtidmmbagacelmaaUs
import Derived.Test.YtidmmbagacelmaaHu
namespace Go.Proofs.Ytidmmbagacelmaa
open Go Go.RowKit

theorem vd_dvG {a b c d : Int} (h : dvO a b c d = true) : vdO c d a b = true ↔ dvG (c, d) (a, b) := by
  rw [vd_iff h]
  constructor
  · rintro ⟨x, y, h1, h2⟩
    exact ⟨(x, y), Prod.ext (by unfold mu; dsimp only; grind) (by unfold mu; dsimp only; grind)⟩
  · rintro ⟨⟨x, y⟩, hy⟩
    have h1 := congrArg Prod.fst hy
    have h2 := congrArg Prod.snd hy
    unfold mu at h1 h2
    dsimp only at h1 h2
    exact ⟨x, y, by grind, by grind⟩
theorem rs_val {a b c d x y : Int} (h : RsIs a b c d true x y) : rs (c, d) (a, b) = (x, y) ∧ gok a b = true ∧ gok c d = true ∧ 0 < nG (c, d) ∧ gok x y = true := by
  obtain ⟨h0, h1, h2⟩ := h
  obtain ⟨k1, k2, hp⟩ := dv_is h0
  obtain ⟨-, -, e1, e2⟩ := dv_t h0
  rw [e1] at h1
  rw [e2] at h2
  have hg := rest_gok h0
  subst h1 h2
  exact ⟨rfl, k1, k2, hp, hg⟩
theorem rs_mk {a b c d x y : Int} (h : rs (c, d) (a, b) = (x, y)) (k1 : gok a b = true) (k2 : gok c d = true) (hp : 0 < nG (c, d)) : RsIs a b c d true x y := by
  have h0 : dvO a b c d = true := dv_mk k1 k2 (by rintro ⟨rfl, rfl⟩; unfold nG at hp; simp at hp)
  obtain ⟨-, -, e1, e2⟩ := dv_t h0
  exact ⟨h0, e1.trans (congrArg Prod.fst h), e2.trans (congrArg Prod.snd h)⟩
theorem rs_none {a b c d x y : Int} (h : RsIs a b c d false x y) : x = 0 ∧ y = 0 := by
  obtain ⟨h0, h1, h2⟩ := h
  obtain ⟨-, -, e1, e2⟩ := dv_f h0
  omega
theorem pair_beq (x y u v : Int) : (x == u && y == v) = decide (((x, y) : Int × Int) = (u, v)) := by
  rw [Bool.eq_iff_iff]; simp
/-- The law of RestOf. -/
theorem rest_again {a b c d x y : Int} (h : RsIs a b c d true x y) : RsIs x y c d true x y ∧ smO a b x y c d = true ∧ vdO c d a b = (x == 0 && y == 0) := by
  obtain ⟨hr, k1, k2, hp, hg⟩ := rs_val h
  have h2 : RsIs x y c d true x y := rs_mk (by rw [← hr]; exact rs_idem hp _) hg k2 hp
  refine ⟨h2, ?_, ?_⟩
  · unfold smO
    rw [h.1, h2.1, h.2.1, h.2.2, h2.2.1, h2.2.2]
    simp
  · unfold vdO
    rw [h.1, h.2.1, h.2.2]; rfl
theorem sm_no {a b c d e f : Int} (h : (dvO a b e f && dvO c d e f) = false) : smO a b c d e f = false := by
  unfold smO; rw [h]; rfl
theorem sm_is {a b c d e f : Int} (k1 : gok a b = true) (k2 : gok c d = true) (k3 : gok e f = true) (hp : 0 < nG (e, f)) : smO a b c d e f = decide (rs (e, f) (a, b) = rs (e, f) (c, d)) := by
  have h1 := rs_mk rfl k1 k3 hp
  have h2 := rs_mk rfl k2 k3 hp
  unfold smO
  rw [h1.1, h2.1, h1.2.1, h1.2.2, h2.2.1, h2.2.2, pair_beq]; rfl
/-- The law of SameOk. -/
theorem same_law {a b c d e f : Int} {o : Bool} (k1 : gok a b = true) (k2 : gok c d = true) (k3 : gok e f = true) (hz : (e == 0 && f == 0) = false) (h : smO a b c d e f = o) :
    smO c d a b e f = o ∧ smO a b a b e f = true ∧ ∀ x y, PlIs a b (-c) (-d) true x y → vdO e f x y = o := by
  have hp : 0 < nG (e, f) := (dv_is (dv_mk (a := a) (b := b) k1 k3 (by rintro ⟨rfl, rfl⟩; simp at hz))).2.2
  rw [sm_is k1 k2 k3 hp] at h
  refine ⟨?_, ?_, ?_⟩
  · rw [sm_is k2 k1 k3 hp, ← h]; simp only [eq_comm]
  · rw [sm_is k1 k1 k3 hp]; simp
  · intro x y hs
    obtain ⟨e1, e2, -, -, kx⟩ := hs.val
    have hd : dvO x y e f = true := dv_mk kx k3 (by rintro ⟨rfl, rfl⟩; simp at hz)
    rw [← h, Bool.eq_iff_iff, vd_dvG hd, decide_eq_true_iff, rs_same hp]
    unfold pa ng
    dsimp only
    rw [e1, e2]
theorem dv_no {a b e f : Int} (h : gok a b = false ∨ gok e f = false ∨ (e == 0 && f == 0) = true) : dvO a b e f = false := by
  unfold dvO
  rcases h with h | h | h <;> rw [h] <;> simp
theorem md_turn {a b : Int} (h : mdO a b = true) : gok a b = true ∧ mdO (-b) a = true := by
  cases k : gok a b
  · have hn := nrm_f k
    unfold mdO at h
    rw [hn] at h
    simp at h
  · have hq := (nrm_q k).1
    unfold mdO at h ⊢
    rw [hq]; exact ⟨rfl, h⟩
end Go.Proofs.Ytidmmbagacelmaa
