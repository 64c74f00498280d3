import Derived.Test.YtahnkecdningnaaKa
import Derived.Test.YtahnkecdningnaaJq
import Derived.Test.YtahnkecdningnaaHx
namespace Go.Proofs.Ytahnkecdningnaa
open Go Go.RowKit
attribute [local go_sem] World.cell?_alloc_some cell?_alloc2_some cell?_alloc3_some cell?_alloc4_some frozen?_alloc_some frozen?_alloc2_some frozen?_alloc3_some World.cell?_setCell_far new_ne0 new_ne1 new_ne2 new_ne3 lt2 lt3 lt4 lt5 lt6 lt7 lt8 lt9
attribute [local go_sem ↓] eqG neG

theorem l2First (a b : Int) (w : World) (ha1 : -1000000000000 ≤ a) (ha2 : a ≤ 1000000000000) (hb1 : -1000000000000 ≤ b) (hb2 : b ≤ 1000000000000) :
    Calls Try.prog 81 #[.agg #[.int .i64 a, .int .i64 b]] w fun e w' => e = .returned (.tuple #[.agg #[.int .i64 (frA a b), .int .i64 (frB a b)], .int .i64 ((4 - fiK a b) % 4)]) ∧ Below w.heap.size w w' := by
  rcases (show (0 < a ∧ 0 ≤ b) ∨ (0 < a ∧ b < 0) ∨ (a = 0 ∧ b < 0) ∨ (a < 0 ∧ b < 0) ∨ (a < 0 ∧ b = 0) ∨ (a < 0 ∧ 0 < b) ∨ (a = 0 ∧ 0 < b) ∨ (a = 0 ∧ b = 0) by omega) with ⟨sa, sb⟩ | ⟨sa, sb⟩ | ⟨sa, sb⟩ | ⟨sa, sb⟩ | ⟨sa, sb⟩ | ⟨sa, sb⟩ | ⟨sa, sb⟩ | ⟨sa, sb⟩
  · have e : fiK a b = 0 := by rw [fiK, if_pos (by simp [fiP]; omega)]
    refine (sFi_0 a b w ha1 ha2 hb1 hb2 sa sb).mono ?_
    rintro _ w' ⟨rfl, hb⟩; exact ⟨by rw [frA, frB, e]; rfl, hb⟩
  · have e : fiK a b = 1 := by rw [fiK, if_neg (by simp [fiP]; omega), if_pos (by simp [fiP]; omega)]
    refine (sFi_1 a b w ha1 ha2 hb1 hb2 sa sb).mono ?_
    rintro _ w' ⟨rfl, hb⟩; exact ⟨by rw [frA, frB, e]; rfl, hb⟩
  · have e : fiK a b = 1 := by rw [fiK, if_neg (by simp [fiP]; omega), if_pos (by simp [fiP]; omega)]
    refine (sFi_2 a b w ha1 ha2 hb1 hb2 sa sb).mono ?_
    rintro _ w' ⟨rfl, hb⟩; exact ⟨by rw [frA, frB, e]; rfl, hb⟩
  · have e : fiK a b = 2 := by rw [fiK, if_neg (by simp [fiP]; omega), if_neg (by simp [fiP]; omega), if_pos (by simp [fiP]; omega)]
    refine (sFi_3 a b w ha1 ha2 hb1 hb2 sa sb).mono ?_
    rintro _ w' ⟨rfl, hb⟩; exact ⟨by rw [frA, frB, e]; rfl, hb⟩
  · have e : fiK a b = 2 := by rw [fiK, if_neg (by simp [fiP]; omega), if_neg (by simp [fiP]; omega), if_pos (by simp [fiP]; omega)]
    refine (sFi_4 a b w ha1 ha2 hb1 hb2 sa sb).mono ?_
    rintro _ w' ⟨rfl, hb⟩; exact ⟨by rw [frA, frB, e]; rfl, hb⟩
  · have e : fiK a b = 3 := by rw [fiK, if_neg (by simp [fiP]; omega), if_neg (by simp [fiP]; omega), if_neg (by simp [fiP]; omega)]
    refine (sFi_5 a b w ha1 ha2 hb1 hb2 sa sb).mono ?_
    rintro _ w' ⟨rfl, hb⟩; exact ⟨by rw [frA, frB, e]; rfl, hb⟩
  · have e : fiK a b = 3 := by rw [fiK, if_neg (by simp [fiP]; omega), if_neg (by simp [fiP]; omega), if_neg (by simp [fiP]; omega)]
    refine (sFi_6 a b w ha1 ha2 hb1 hb2 sa sb).mono ?_
    rintro _ w' ⟨rfl, hb⟩; exact ⟨by rw [frA, frB, e]; rfl, hb⟩
  · subst sa; subst sb
    refine (sFi_7 0 0 w ha1 ha2 hb1 hb2 rfl rfl).mono ?_
    rintro _ w' ⟨rfl, hb⟩; exact ⟨rfl, hb⟩
theorem l2First_v {a b x y t : Int} (w : World) (ha1 : -1000000000000 ≤ a) (ha2 : a ≤ 1000000000000) (hb1 : -1000000000000 ≤ b) (hb2 : b ≤ 1000000000000) (h : frA a b = x ∧ frB a b = y ∧ (4 - fiK a b) % 4 = t) :
    Calls Try.prog 81 #[.agg #[.int .i64 a, .int .i64 b]] w fun e w' => e = .returned (.tuple #[.agg #[.int .i64 x, .int .i64 y], .int .i64 t]) ∧ Below w.heap.size w w' := by
  obtain ⟨rfl, rfl, rfl⟩ := h; exact l2First a b w ha1 ha2 hb1 hb2
theorem l3Divided_v {a b c d q1 q2 r1 r2 : Int} (w : World) (h : dvO a b c d = true) (e : qA a b c d = q1 ∧ qB a b c d = q2 ∧ rA a b c d = r1 ∧ rB a b c d = r2) : Calls Try.prog 52 #[.agg #[.int .i64 a, .int .i64 b], .agg #[.int .i64 c, .int .i64 d]] w fun e w' => e = .returned (.tuple #[.agg #[.int .i64 q1, .int .i64 q2], .agg #[.int .i64 r1, .int .i64 r2]]) ∧ Below w.heap.size w w' := by
  obtain ⟨rfl, rfl, rfl, rfl⟩ := e; exact l3Divided a b c d w h

/-- The norm of the number in block b: what falls with each step of dividing. -/
def ms (W : World) (b : Nat) : Nat := match W.cell? ⟨b, 0, none⟩, W.cell? ⟨b, 1, none⟩ with
  | some (.int _ c), some (.int _ d) => (c * c + d * d).toNat
  | _, _ => 0
theorem ms_eq {W : World} {b : Nat} {c d : Int} (h0 : W.cell? ⟨b, 0, none⟩ = some (.int .i64 c)) (h1 : W.cell? ⟨b, 1, none⟩ = some (.int .i64 d)) : ms W b = (c * c + d * d).toNat := by rw [ms, h0, h1]
/-- A block of two parts that is not frozen. -/
structure Two (W : World) (b : Nat) (x y : Int) : Prop where
  c0 : W.cell? ⟨b, 0, none⟩ = some (.int .i64 x)
  c1 : W.cell? ⟨b, 1, none⟩ = some (.int .i64 y)
  f0 : W.frozen? ⟨b, 0, none⟩ = false
  f1 : W.frozen? ⟨b, 1, none⟩ = false
theorem Two.of {W : World} {b : Nat} {x y : Int} (h : T2 W b (.int .i64 x) (.int .i64 y)) : Two W b x y := ⟨h.c0, h.c1, h.f0, h.f1⟩
/-- What one step of dividing makes of two numbers. -/
theorem step_gc {k : Nat} {x y u v : Int} (k1 : gok x y = true) (k2 : gok u v = true) (hz : (u == 0 && v == 0) = false) (hn : u * u + v * v < 2 ^ k) :
    ∃ j r s p q, k = j + 1 ∧ dvO x y u v = true ∧ qA x y u v = p ∧ qB x y u v = q ∧ rA x y u v = r ∧ rB x y u v = s ∧ gok r s = true ∧ r * r + s * s < 2 ^ j ∧ gc k x y u v = gc j u v r s ∧ st k x y u v = st j u v r s + 1 ∧ (r * r + s * s).toNat < (u * u + v * v).toNat ∧
      ∀ A A' B B' C C' D D', fc k x y u v A A' B B' C C' D D' = fc j u v r s C C' D D' (A - (p * C - q * C')) (A' - (p * C' + q * C)) (B - (p * D - q * D')) (B' - (p * D' + q * D)) := by
  have hnz : ¬ (u = 0 ∧ v = 0) := by rintro ⟨rfl, rfl⟩; simp at hz
  have hd := dv_mk k1 k2 hnz
  have hpos := nz_pos hnz
  have hh := rest_half (a := x) (b := y) hpos
  cases k with
  | zero => exact absurd (sq_zero (by simpa using hn)) hnz
  | succ j =>
    have hp : (2 : Int) ^ (j + 1) = 2 * 2 ^ j := by rw [Int.pow_succ]; omega
    exact ⟨j, _, _, _, _, rfl, hd, rfl, rfl, rfl, rfl, rest_gok hd, by omega, by rw [gc, if_neg hnz], by rw [st, if_neg hnz], by have := N2_nn (rA x y u v) (rB x y u v); unfold N2 at this; omega, fun A A' B B' C C' D D' => by rw [fc, if_neg hnz]⟩
theorem end_gc {k : Nat} {x y u v : Int} (hz : (u == 0 && v == 0) = true) : u = 0 ∧ v = 0 ∧ gc k x y u v = (x, y) ∧ st k x y u v = 0 ∧ ∀ A A' B B' C C' D D', fc k x y u v A A' B B' C C' D D' = (A, A', B, B') := by
  simp at hz
  obtain ⟨rfl, rfl⟩ := hz
  refine ⟨rfl, rfl, ?_, ?_, ?_⟩ <;> cases k <;> simp [gc, st, fc]

/-- What holds between two rounds of dividing. -/
def L4 (w : World) (g : Int × Int) (wr : World) : Prop := ∃ (k : Nat) (x y u v p q : Int), Two wr w.heap.size x y ∧ Two wr (w.heap.size + 1) u v ∧ Two wr (w.heap.size + 1 + 1) p q ∧ gok x y = true ∧ gok u v = true ∧ u * u + v * v < 2 ^ k ∧ gc k x y u v = g ∧ Below w.heap.size w wr

end Go.Proofs.Ytahnkecdningnaa
