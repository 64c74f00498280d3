import Derived.Test.YtidmmbagacelmaaPe
import Derived.Test.YtidmmbagacelmaaPb
namespace Go.Proofs.Ytidmmbagacelmaa
open Go Go.RowKit

theorem mu_swp (x y : Int × Int) : mu x y = mu y x := mu_comm x y
theorem pa_swp (x y : Int × Int) : pa x y = pa y x := by unfold pa; exact Prod.ext (by dsimp only; omega) (by dsimp only; omega)

theorem adv_val {a b c d e f x y : Int} : AdIs a b c d e f true x y ↔ adO a b c d e f = true ∧ rs (e, f) (pa (rs (e, f) (a, b)) (rs (e, f) (c, d))) = (x, y) := by
  unfold AdIs adA adB
  constructor
  · rintro ⟨h, h1, h2⟩
    rw [h, if_pos rfl] at h1 h2
    exact ⟨h, Prod.ext h1 h2⟩
  · rintro ⟨h, h1⟩
    rw [h, if_pos rfl, if_pos rfl]
    exact ⟨rfl, congrArg Prod.fst h1, congrArg Prod.snd h1⟩
theorem adv_none {a b c d e f x y : Int} (h : AdIs a b c d e f false x y) : x = 0 ∧ y = 0 := by
  obtain ⟨h0, h1, h2⟩ := h
  obtain ⟨e1, e2, e3, e4⟩ := ad_f h0
  omega
/-- The law. -/
theorem adv_law {a b c d e f x y : Int} (h : AdIs a b c d e f true x y) : ∃ p q, RsIs a b e f true p q ∧ AdIs p q c d e f true x y ∧ AdIs c d a b e f true x y ∧ ∀ s1 s2, PlIs a b c d true s1 s2 → RsIs s1 s2 e f true x y := by
  obtain ⟨h0, hv⟩ := adv_val.1 h
  obtain ⟨k1, k2, k3⟩ := ad_ok h0
  obtain ⟨k4, h1, -⟩ := md_is k3
  have hp : 0 < nG (e, f) := by unfold nG; dsimp only; omega
  have hr := rs_mk (x := (rs (e, f) (a, b)).1) (y := (rs (e, f) (a, b)).2) rfl k1 k4 hp
  have hrg := (rs_val hr).2.2.2.2
  refine ⟨_, _, hr, adv_val.2 ⟨?_, ?_⟩, adv_val.2 ⟨?_, ?_⟩, ?_⟩
  · unfold adO; rw [hrg, k2, k3]; rfl
  · show rs (e, f) (pa (rs (e, f) (rs (e, f) (a, b))) (rs (e, f) (c, d))) = (x, y)
    rw [rs_idem hp]; exact hv
  · unfold adO; rw [k1, k2, k3]; rfl
  · rw [pa_swp]; exact hv
  · intro s1 s2 hs
    obtain ⟨e1, e2, -, -, kx⟩ := hs.val
    refine rs_mk ?_ kx k4 hp
    rw [rs_add hp] at hv
    rw [← hv, e1, e2]; rfl

theorem muv_val {a b c d e f x y : Int} : MuIs a b c d e f true x y ↔ adO a b c d e f = true ∧ rs (e, f) (mu (rs (e, f) (a, b)) (rs (e, f) (c, d))) = (x, y) := by
  unfold MuIs muA muB
  constructor
  · rintro ⟨h, h1, h2⟩
    rw [h, if_pos rfl] at h1 h2
    exact ⟨h, Prod.ext h1 h2⟩
  · rintro ⟨h, h1⟩
    rw [h, if_pos rfl, if_pos rfl]
    exact ⟨rfl, congrArg Prod.fst h1, congrArg Prod.snd h1⟩
theorem muv_none {a b c d e f x y : Int} (h : MuIs a b c d e f false x y) : x = 0 ∧ y = 0 := by
  obtain ⟨h0, h1, h2⟩ := h
  obtain ⟨e1, e2, e3, e4⟩ := ad_f h0
  omega
/-- The law. -/
theorem muv_law {a b c d e f x y : Int} (h : MuIs a b c d e f true x y) : ∃ p q, RsIs a b e f true p q ∧ MuIs p q c d e f true x y ∧ MuIs c d a b e f true x y ∧ ∀ s1 s2, TiIs a b c d true s1 s2 → RsIs s1 s2 e f true x y := by
  obtain ⟨h0, hv⟩ := muv_val.1 h
  obtain ⟨k1, k2, k3⟩ := ad_ok h0
  obtain ⟨k4, h1, -⟩ := md_is k3
  have hp : 0 < nG (e, f) := by unfold nG; dsimp only; omega
  have hr := rs_mk (x := (rs (e, f) (a, b)).1) (y := (rs (e, f) (a, b)).2) rfl k1 k4 hp
  have hrg := (rs_val hr).2.2.2.2
  refine ⟨_, _, hr, muv_val.2 ⟨?_, ?_⟩, muv_val.2 ⟨?_, ?_⟩, ?_⟩
  · unfold adO; rw [hrg, k2, k3]; rfl
  · show rs (e, f) (mu (rs (e, f) (rs (e, f) (a, b))) (rs (e, f) (c, d))) = (x, y)
    rw [rs_idem hp]; exact hv
  · unfold adO; rw [k1, k2, k3]; rfl
  · rw [mu_swp]; exact hv
  · intro s1 s2 hs
    obtain ⟨e1, e2, -, -, kx⟩ := hs.val
    refine rs_mk ?_ kx k4 hp
    rw [rs_mu hp] at hv
    rw [← hv, e1, e2]; rfl
end Go.Proofs.Ytidmmbagacelmaa
