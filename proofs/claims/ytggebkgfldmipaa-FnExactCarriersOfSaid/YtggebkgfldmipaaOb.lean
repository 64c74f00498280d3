import Derived.Test.YtggebkgfldmipaaKa
import Derived.Test.YtggebkgfldmipaaJq
import Derived.Test.YtggebkgfldmipaaHx
namespace Go.Proofs.Ytggebkgfldmipaa
open Go Go.RowKit
attribute [local go_sem] World.cell?_alloc_some cell?_alloc2_some cell?_alloc3_some cell?_alloc4_some frozen?_alloc_some frozen?_alloc2_some frozen?_alloc3_some World.cell?_setCell_far new_ne0 new_ne1 new_ne2 new_ne3 lt2 lt3 lt4 lt5 lt6 lt7 lt8 lt9
attribute [local go_sem ↓] eqG neG

theorem l2First (a b : Int) (w : World) (ha1 : -1000000000000 ≤ a) (ha2 : a ≤ 1000000000000) (hb1 : -1000000000000 ≤ b) (hb2 : b ≤ 1000000000000) :
    Calls Try.prog 79 #[.agg #[.int .i64 a, .int .i64 b]] w fun e w' => e = .returned (.tuple #[.agg #[.int .i64 (frA a b), .int .i64 (frB a b)], .int .i64 ((4 - fiK a b) % 4)]) ∧ Below w.heap.size w w' := by
  rcases (show (0 < a ∧ 0 ≤ b) ∨ (0 < a ∧ b < 0) ∨ (a = 0 ∧ b < 0) ∨ (a < 0 ∧ b < 0) ∨ (a < 0 ∧ b = 0) ∨ (a < 0 ∧ 0 < b) ∨ (a = 0 ∧ 0 < b) ∨ (a = 0 ∧ b = 0) by omega) with ⟨sa, sb⟩ | ⟨sa, sb⟩ | ⟨sa, sb⟩ | ⟨sa, sb⟩ | ⟨sa, sb⟩ | ⟨sa, sb⟩ | ⟨sa, sb⟩ | ⟨sa, sb⟩
  · have e : fiK a b = 0 := by rw [fiK, if_pos (by simp [fiP]; omega)]
    refine (sFi_0 a b w ha1 ha2 hb1 hb2 sa sb).mono ?_
    rintro _ w' ⟨rfl, hb⟩; exact ⟨by rw [frA, frB, e]; rfl, hb⟩
  · have e : fiK a b = 1 := by rw [fiK, if_neg (by simp [fiP]; omega), if_pos (by simp [fiP]; omega)]
    refine (sFi_1 a b w ha1 ha2 hb1 hb2 sa sb).mono ?_
    rintro _ w' ⟨rfl, hb⟩; exact ⟨by rw [frA, frB, e]; rfl, hb⟩
  · have e : fiK a b = 1 := by rw [fiK, if_neg (by simp [fiP]; omega), if_pos (by simp [fiP]; omega)]
    refine (sFi_2 a b w ha1 ha2 hb1 hb2 sa sb).mono ?_
    rintro _ w' ⟨rfl, hb⟩; exact ⟨by rw [frA, frB, e]; rfl, hb⟩
  · have e : fiK a b = 2 := by rw [fiK, if_neg (by simp [fiP]; omega), if_neg (by simp [fiP]; omega), if_pos (by simp [fiP]; omega)]
    refine (sFi_3 a b w ha1 ha2 hb1 hb2 sa sb).mono ?_
    rintro _ w' ⟨rfl, hb⟩; exact ⟨by rw [frA, frB, e]; rfl, hb⟩
  · have e : fiK a b = 2 := by rw [fiK, if_neg (by simp [fiP]; omega), if_neg (by simp [fiP]; omega), if_pos (by simp [fiP]; omega)]
    refine (sFi_4 a b w ha1 ha2 hb1 hb2 sa sb).mono ?_
    rintro _ w' ⟨rfl, hb⟩; exact ⟨by rw [frA, frB, e]; rfl, hb⟩
  · have e : fiK a b = 3 := by rw [fiK, if_neg (by simp [fiP]; omega), if_neg (by simp [fiP]; omega), if_neg (by simp [fiP]; omega)]
    refine (sFi_5 a b w ha1 ha2 hb1 hb2 sa sb).mono ?_
    rintro _ w' ⟨rfl, hb⟩; exact ⟨by rw [frA, frB, e]; rfl, hb⟩
  · have e : fiK a b = 3 := by rw [fiK, if_neg (by simp [fiP]; omega), if_neg (by simp [fiP]; omega), if_neg (by simp [fiP]; omega)]
    refine (sFi_6 a b w ha1 ha2 hb1 hb2 sa sb).mono ?_
    rintro _ w' ⟨rfl, hb⟩; exact ⟨by rw [frA, frB, e]; rfl, hb⟩
  · subst sa; subst sb
    refine (sFi_7 0 0 w ha1 ha2 hb1 hb2 rfl rfl).mono ?_
    rintro _ w' ⟨rfl, hb⟩; exact ⟨rfl, hb⟩
theorem l2First_v {a b x y t : Int} (w : World) (ha1 : -1000000000000 ≤ a) (ha2 : a ≤ 1000000000000) (hb1 : -1000000000000 ≤ b) (hb2 : b ≤ 1000000000000) (h : frA a b = x ∧ frB a b = y ∧ (4 - fiK a b) % 4 = t) :
    Calls Try.prog 79 #[.agg #[.int .i64 a, .int .i64 b]] w fun e w' => e = .returned (.tuple #[.agg #[.int .i64 x, .int .i64 y], .int .i64 t]) ∧ Below w.heap.size w w' := by
  obtain ⟨rfl, rfl, rfl⟩ := h; exact l2First a b w ha1 ha2 hb1 hb2
theorem l3Divided_v {a b c d q1 q2 r1 r2 : Int} (w : World) (h : dvO a b c d = true) (e : qA a b c d = q1 ∧ qB a b c d = q2 ∧ rA a b c d = r1 ∧ rB a b c d = r2) : Calls Try.prog 51 #[.agg #[.int .i64 a, .int .i64 b], .agg #[.int .i64 c, .int .i64 d]] w fun e w' => e = .returned (.tuple #[.agg #[.int .i64 q1, .int .i64 q2], .agg #[.int .i64 r1, .int .i64 r2]]) ∧ Below w.heap.size w w' := by
  obtain ⟨rfl, rfl, rfl, rfl⟩ := e; exact l3Divided a b c d w h

/-- The norm of the number in block b: what falls with each step of dividing. -/
def ms (W : World) (b : Nat) : Nat := match W.cell? ⟨b, 0, none⟩, W.cell? ⟨b, 1, none⟩ with
  | some (.int _ c), some (.int _ d) => (c * c + d * d).toNat
  | _, _ => 0
theorem ms_eq {W : World} {b : Nat} {c d : Int} (h0 : W.cell? ⟨b, 0, none⟩ = some (.int .i64 c)) (h1 : W.cell? ⟨b, 1, none⟩ = some (.int .i64 d)) : ms W b = (c * c + d * d).toNat := by rw [ms, h0, h1]
/-- A block of two parts that is not frozen. -/
structure Two (W : World) (b : Nat) (x y : Int) : Prop where
  c0 : W.cell? ⟨b, 0, none⟩ = some (.int .i64 x)
  c1 : W.cell? ⟨b, 1, none⟩ = some (.int .i64 y)
  f0 : W.frozen? ⟨b, 0, none⟩ = false
  f1 : W.frozen? ⟨b, 1, none⟩ = false
theorem Two.of {W : World} {b : Nat} {x y : Int} (h : T2 W b (.int .i64 x) (.int .i64 y)) : Two W b x y := ⟨h.c0, h.c1, h.f0, h.f1⟩
/-- What one step of dividing makes of two numbers. -/
theorem step_gc {k : Nat} {x y u v : Int} (k1 : gok x y = true) (k2 : gok u v = true) (hz : (u == 0 && v == 0) = false) (hn : u * u + v * v < 2 ^ k) :
    ∃ j r s p q, k = j + 1 ∧ dvO x y u v = true ∧ qA x y u v = p ∧ qB x y u v = q ∧ rA x y u v = r ∧ rB x y u v = s ∧ gok r s = true ∧ r * r + s * s < 2 ^ j ∧ gc k x y u v = gc j u v r s ∧ st k x y u v = st j u v r s + 1 ∧ (r * r + s * s).toNat < (u * u + v * v).toNat ∧
      ∀ A A' B B' C C' D D', fc k x y u v A A' B B' C C' D D' = fc j u v r s C C' D D' (A - (p * C - q * C')) (A' - (p * C' + q * C)) (B - (p * D - q * D')) (B' - (p * D' + q * D)) := by
  have hnz : ¬ (u = 0 ∧ v = 0) := by rintro ⟨rfl, rfl⟩; simp at hz
  have hd := dv_mk k1 k2 hnz
  have hpos := nz_pos hnz
  have hh := rest_half (a := x) (b := y) hpos
  cases k with
  | zero => exact absurd (sq_zero (by simpa using hn)) hnz
  | succ j =>
    have hp : (2 : Int) ^ (j + 1) = 2 * 2 ^ j := by rw [Int.pow_succ]; omega
    exact ⟨j, _, _, _, _, rfl, hd, rfl, rfl, rfl, rfl, rest_gok hd, by omega, by rw [gc, if_neg hnz], by rw [st, if_neg hnz], by have := N2_nn (rA x y u v) (rB x y u v); unfold N2 at this; omega, fun A A' B B' C C' D D' => by rw [fc, if_neg hnz]⟩
theorem end_gc {k : Nat} {x y u v : Int} (hz : (u == 0 && v == 0) = true) : u = 0 ∧ v = 0 ∧ gc k x y u v = (x, y) ∧ st k x y u v = 0 ∧ ∀ A A' B B' C C' D D', fc k x y u v A A' B B' C C' D D' = (A, A', B, B') := by
  simp at hz
  obtain ⟨rfl, rfl⟩ := hz
  refine ⟨rfl, rfl, ?_, ?_, ?_⟩ <;> cases k <;> simp [gc, st, fc]

/-- What holds between two rounds of dividing. -/
def L4 (w : World) (g : Int × Int) (wr : World) : Prop := ∃ (k : Nat) (x y u v p q : Int), Two wr w.heap.size x y ∧ Two wr (w.heap.size + 1) u v ∧ Two wr (w.heap.size + 1 + 1) p q ∧ gok x y = true ∧ gok u v = true ∧ u * u + v * v < 2 ^ k ∧ gc k x y u v = g ∧ Below w.heap.size w wr

set_option maxHeartbeats 2000000 in
theorem l4Common (a b c d : Int) (w : World) (k1 : gok a b = true) (k2 : gok c d = true) : Calls Try.prog 74 #[.agg #[.int .i64 a, .int .i64 b], .agg #[.int .i64 c, .int .i64 d]] w fun e w' => e = .returned (.agg #[.int .i64 (fiA (gA a b c d) (gB a b c d)), .int .i64 (fiB (gA a b c d) (gB a b c d))]) ∧ Below w.heap.size w w' := by
  obtain ⟨g, hg⟩ : ∃ g, gc 21 a b c d = g := ⟨_, rfl⟩
  rw [gA, gB, hg]
  have hn := nrm_21 k2
  go_enter Try.func74, Try.ntmps74
  go_wp2_with fail
  go_loopw [] (fun wr => L4 w g wr) (fun wr => ms wr (w.heap.size + 1))
  case atStart => exact ⟨21, a, b, c, d, 0, 0, (Two.of (t2A)), (Two.of (t2A)), (Two.of (t2A)), k1, k2, hn, hg, blA⟩
  case round =>
    clear hg hn k1 k2
    obtain ⟨k, x, y, u, v, p, q, ⟨z0, z1, z2, z3⟩, ⟨y0, y1, y2, y3⟩, ⟨x0, x1, x2, x3⟩, k1, k2, hn, hg, hbr⟩ := hrel
    have hsr := hbr.size
    have hlr : w.heap.size + 1 + 1 < wr.heap.size := World.block_lt_of_cell? _ _ x0
    cases hz : (u == 0 && v == 0)
    · obtain ⟨j, r, s, qa, qb, -, hd, e1, e2, e3, e4, k3, hn', hgc, -, hlt, -⟩ := step_gc k1 k2 hz hn
      rw [hgc] at hg
      have Hn := Lib.hid hn'
      have Hl := Lib.hid hlt
      have Hg := Lib.hid hg
      clear hn hn' hlt hg hgc k1
      go_wp2_with fail
      (refine (l3Divided_v _ hd ⟨e1, e2, e3, e4⟩).mono ?_; rintro e w1 ⟨rfl, hb1⟩; have hz1 := hb1.size; (repeat (first | rw [World.size_alloc] at hz1 | rw [World.size_setCell] at hz1 | rw [World.size_drew] at hz1)); have pp := T2.K hb1 (b := w.heap.size) (x := _) (y := _) (t2A); obtain ⟨kk1, kk2, fkk1, fkk2⟩ := pp; have pp := T2.K hb1 (b := w.heap.size + 1) (x := _) (y := _) (t2A); obtain ⟨kk3, kk4, fkk3, fkk4⟩ := pp; have pp := T2.K hb1 (b := w.heap.size + 1 + 1) (x := _) (y := _) (t2A); obtain ⟨kk5, kk6, fkk5, fkk6⟩ := pp)
      have n1 : (w.heap.size = w1.heap.size) = False := by simp; omega
      have n2 : (w.heap.size = w1.heap.size + 1) = False := by simp; omega
      have n3 : (w1.heap.size = w.heap.size) = False := by simp; omega
      have n4 : (w1.heap.size + 1 = w.heap.size) = False := by simp; omega
      go_wp2_with fail
      go_roundw
      case rel => exact ⟨j, u, v, r, s, p, q, (Two.of (t2A)), (Two.of (t2A)), (Two.of (t2A)), k2, k3, Hn.out, Hg.out, blA⟩
      case measure => rw [ms_eq (c := r) (d := s) (kcA) (kcA), ms_eq (c := u) (d := v) (kcA) (kcA)]; exact Hl.out
    · obtain ⟨rfl, rfl, e, -⟩ := end_gc (k := k) (x := x) (y := y) hz
      rw [e] at hg
      subst hg
      obtain ⟨b1, b2, b3, b4⟩ := gok_bd k1
      obtain ⟨f1, f2⟩ := fr_fi k1
      clear e hn
      go_wp2_with fail
      (refine (l2First_v _ (by omega) (by omega) (by omega) (by omega) ⟨f1, f2, rfl⟩).mono ?_; rintro e w1 ⟨rfl, hb1⟩; have hz1 := hb1.size; (repeat (first | rw [World.size_alloc] at hz1 | rw [World.size_setCell] at hz1 | rw [World.size_drew] at hz1)); have pp := T2.K hb1 (b := w.heap.size + 1 + 1) (x := _) (y := _) (t2A); obtain ⟨kk7, kk8, fkk7, fkk8⟩ := pp; (try clear kk1 kk2 fkk1 fkk2 kk3 kk4 fkk3 fkk4 kk5 kk6 fkk5 fkk6))
      go_wp2_with fail
      refine bodyPost_ret (v := .agg #[.int .i64 (fiA x y), .int .i64 (fiB x y)]) (by simp [results, Try.results74, go_sem, *]) rfl ?_; exact ⟨rfl, blA⟩
end Go.Proofs.Ytggebkgfldmipaa
