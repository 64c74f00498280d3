import Derived.Test.YtggebkgfldmipaaProg
import Derived.Test.YtggebkgfldmipaaBase
import Derived.Deep.QuietTactic
import Derived.BigQuiet
import Derived.IntWalk
namespace Go.Proofs.Ytggebkgfldmipaa
open Go Go.RowKit
attribute [local go_sem] World.cell?_alloc_some cell?_alloc2_some cell?_alloc3_some cell?_alloc4_some frozen?_alloc_some frozen?_alloc2_some frozen?_alloc3_some World.cell?_setCell_far new_ne0 new_ne1 new_ne2 new_ne3 lt2 lt3 lt4 lt5 lt6 lt7 lt8 lt9

def Byt (w : World) (R : Nat) (a : Option Addr) (len : Nat) : Prop := len = 0 ∨ ∃ b off, a = some ⟨b, off, none⟩ ∧ b < R ∧ len ≤ 2000 ∧ ∀ i, i < len → ∃ z : Nat, z ≤ 255 ∧ w.cell? ⟨b, off + i, none⟩ = some (.int .u8 z)
def Rd (w : World) (R p : Nat) : Prop := ∃ a len cap, w.cell? ⟨R, 0, none⟩ = some (.slice a len cap) ∧ w.cell? ⟨R, 1, none⟩ = some (.int .i64 p) ∧ w.frozen? ⟨R, 1, none⟩ = false ∧ Byt w R a len
structure Off (R : Nat) (w w' : World) : Prop where
  os : w'.os = w.os
  tape : w'.tape = w.tape
  output : w'.output = w.output
  size : w.heap.size ≤ w'.heap.size
  block : ∀ k, k ≠ R → k < w.heap.size → w'.heap[k]? = w.heap[k]?
/-- A draw was made: a number below n. -/
def Picked (R p : Nat) (n : Int) (w : World) (e : Ending) (w' : World) : Prop := ∃ k : Int, e = .returned (.int .i64 k) ∧ 0 ≤ k ∧ (k < n ∨ k = 0) ∧ Off R w w' ∧ Rd w' R (p + 1)

theorem Off.mk_set {R : Nat} {w : World} {v : Value} : Off R w (w.setCell ⟨R, 1, none⟩ v) :=
  ⟨rfl, rfl, rfl, by simp, fun k hk _ => Below.heap_setCell _ _ _ _ hk⟩
theorem Off.drewN {R : Nat} {w w' : World} {n : Nat} (h : Off R w w') : Off R w (w'.drewN n) := ⟨h.os, h.tape, h.output, h.size, h.block⟩
theorem Rd_drewN {R p n : Nat} {w : World} (h : Rd w R p) : Rd (w.drewN n) R p := h
theorem Rd_set {R p : Nat} {w : World} {a : Option Addr} {len cap : Nat} (h0 : w.cell? ⟨R, 0, none⟩ = some (.slice a len cap)) (h1 : w.cell? ⟨R, 1, none⟩ = some (.int .i64 p)) (hf : w.frozen? ⟨R, 1, none⟩ = false) (hB : Byt w R a len) :
    Rd (w.setCell ⟨R, 1, none⟩ (.int .i64 (↑p + 1))) R (p + 1) := by
  refine ⟨a, len, cap, ?_, ?_, by simpa using hf, ?_⟩
  · rw [World.cell?_setCell_other _ _ _ _ (by intro e; injection e; omega)]; exact h0
  · rw [World.cell?_setCell_same _ _ _ h1]; simp
  · rcases hB with h | ⟨b, off, rfl, hne, hl, hc⟩
    · exact .inl h
    · refine .inr ⟨b, off, rfl, hne, hl, fun i hi => ?_⟩
      obtain ⟨z, hz, hcz⟩ := hc i hi
      exact ⟨z, hz, by rw [World.cell?_setCell_other _ _ _ _ (by intro e; injection e; omega)]; exact hcz⟩

theorem xor_nonneg (a b : Int) (h1 : 0 ≤ a) (h2 : a < 4611686018427387904) (h3 : 0 ≤ b) (h4 : b < 4611686018427387904) : 0 ≤ bits .xor .i64 a b := by
  obtain ⟨x, rfl⟩ := Int.eq_ofNat_of_zero_le h1
  obtain ⟨y, rfl⟩ := Int.eq_ofNat_of_zero_le h3
  have hx : x ^^^ y < 2 ^ 62 := Nat.xor_lt_two_pow (by omega) (by omega)
  have e1 : (BitVec.ofInt 64 (x : Int)).toNat = x := by
    rw [BitVec.ofInt_natCast, BitVec.toNat_ofNat]; exact Nat.mod_eq_of_lt (by omega)
  have e2 : (BitVec.ofInt 64 (y : Int)).toNat = y := by
    rw [BitVec.ofInt_natCast, BitVec.toNat_ofNat]; exact Nat.mod_eq_of_lt (by omega)
  show 0 ≤ IntKind.i64.wrap ((BitVec.ofInt 64 (x : Int) ^^^ BitVec.ofInt 64 (y : Int)).toNat : Int)
  rw [BitVec.toNat_xor, e1, e2, IntWalk.i64_in _ (by omega)]
  omega

set_option maxHeartbeats 1000000 in
theorem pick (R p : Nat) (n : Int) (w : World) (h : Rd w R p) (hp : p ≤ 1000000000) (hn : n ≤ 1000000000) :
    Calls Try.prog 59 #[.pointer (some ⟨R, 0, none⟩), .int .i64 n] w (Picked R p n w) := by
  obtain ⟨a, len, cap, h0, h1, hf, hB⟩ := h
  have hend := Rd_set h0 h1 hf hB
  have HE := Lib.hid hend
  clear hend
  by_cases hn1 : n < 1
  · go_enter Try.func59, Try.ntmps59
    go_wp2
    go_ret
    exact ⟨0, rfl, by omega, by omega, Off.mk_set, HE.out⟩
  by_cases hl : len = 0
  · subst hl
    clear hB
    have hn2 : decide (n < 1) = false := by simp; omega
    go_enter Try.func59, Try.ntmps59
    go_wp2
    go_ret
    exact ⟨0, rfl, by omega, by omega, Off.mk_set, HE.out⟩
  rcases hB with hB | ⟨b, off, rfl, hne, hl2, hc⟩
  · exact absurd hB hl
  have hn2 : decide (n < 1) = false := by simp; omega
  have hl3 : ((len : Int) == 0) = false := by simp; omega
  by_cases hpl : p < len
  · obtain ⟨z, hz, hcz⟩ := hc p hpl
    clear hc
    have hneR : ¬ R = b := by omega
    go_enter Try.func59, Try.ntmps59
    go_wp2
    go_ret
    exact ⟨(z : Int) % n, rfl, Int.emod_nonneg _ (by omega), .inl (Int.emod_lt_of_pos _ (by omega)), Off.mk_set, HE.out⟩
  · have hlp : 0 < len := by omega
    have i1 : p % len < len := Nat.mod_lt _ hlp
    have i2 : (p * 7 + 3) % len < len := Nat.mod_lt _ hlp
    obtain ⟨z1, hz1, hc1⟩ := hc _ i1
    obtain ⟨z2, hz2, hc2⟩ := hc _ i2
    clear hc
    have d1 : p / len ≤ p := Nat.div_le_self _ _
    have hneR : ¬ R = b := by omega
    have j1 : (0 : Int) ≤ (p : Int) % (len : Int) := Int.emod_nonneg _ (by omega)
    have j2 : (p : Int) % (len : Int) < (len : Int) := Int.emod_lt_of_pos _ (by omega)
    have j3 : (0 : Int) ≤ ((p : Int) * 7 + 3) % (len : Int) := Int.emod_nonneg _ (by omega)
    have j4 : ((p : Int) * 7 + 3) % (len : Int) < (len : Int) := Int.emod_lt_of_pos _ (by omega)
    have j5 : (0 : Int) ≤ (p : Int) / (len : Int) := Int.ediv_nonneg (by omega) (by omega)
    have j6 : (p : Int) / (len : Int) ≤ 1000000000 := by
      have : (p : Int) / (len : Int) ≤ (p : Int) := Int.ediv_le_self _ (by omega)
      omega
    go_enter Try.func59, Try.ntmps59
    go_wp2
    go_quiet (fail)
    go_wp2
    go_ret
    have x0 : 0 ≤ (z1 : Int) * 131 + z2 * 1117 + p * 29 + (p : Int) / len * 53 := by omega
    have x1 : (z1 : Int) * 131 + z2 * 1117 + p * 29 + (p : Int) / len * 53 < 4611686018427387904 := by omega
    generalize (z1 : Int) * 131 + z2 * 1117 + p * 29 + (p : Int) / len * 53 = x at x0 x1 ⊢
    have y0 : 0 ≤ bits .xor .i64 x (x / 64) := xor_nonneg _ _ x0 x1 (by omega) (by omega)
    refine ⟨_, rfl, ?_, .inl ?_, Off.mk_set.drewN, Rd_drewN HE.out⟩
    · rw [Int.tmod_eq_emod_of_nonneg y0]; exact Int.emod_nonneg _ (by omega)
    · rw [Int.tmod_eq_emod_of_nonneg y0]; exact Int.emod_lt_of_pos _ (by omega)

theorem Off.cell {R : Nat} {w w' : World} (h : Off R w w') {b o : Nat} {v : Value} (hb : b ≠ R) (hc : w.cell? ⟨b, o, none⟩ = some v) : w'.cell? ⟨b, o, none⟩ = some v := by
  rw [World.cell?_of_block (w := w) (h.block b hb (World.block_lt_of_cell? w ⟨b, o, none⟩ hc))]; exact hc
theorem Off.frozen {R : Nat} {w w' : World} (h : Off R w w') {b o : Nat} {v : Value} (hb : b ≠ R) (hc : w.cell? ⟨b, o, none⟩ = some v) (hf : w.frozen? ⟨b, o, none⟩ = false) : w'.frozen? ⟨b, o, none⟩ = false := by
  rw [World.frozen?_of_block (w := w) (h.block b hb (World.block_lt_of_cell? w ⟨b, o, none⟩ hc))]; exact hf
theorem C2.F {R : Nat} {w w' : World} {b : Nat} {x y : Value} (h : Off R w w') (hb : b ≠ R) (t : C2 w b x y) : C2 w' b x y := ⟨h.cell hb t.c0, h.cell hb t.c1⟩
theorem T2.F {R : Nat} {w w' : World} {b : Nat} {x y : Value} (h : Off R w w') (hb : b ≠ R) (t : T2 w b x y) : T2 w' b x y := ⟨h.cell hb t.c0, h.cell hb t.c1, h.frozen hb t.c0 t.f0, h.frozen hb t.c1 t.f1⟩
theorem Off.refl (R : Nat) (w : World) : Off R w w := ⟨rfl, rfl, rfl, Nat.le_refl _, fun _ _ _ => rfl⟩
theorem Off.trans {R : Nat} {a b c : World} (h : Off R a b) (k : Off R b c) : Off R a c :=
  ⟨k.os.trans h.os, k.tape.trans h.tape, k.output.trans h.output, Nat.le_trans h.size k.size, fun i hi hl => (k.block i hi (Nat.lt_of_lt_of_le hl h.size)).trans (h.block i hi hl)⟩
theorem Off.below {R B : Nat} {w w' : World} (h : Off R w w') (hR : B ≤ R) (hB : B ≤ w.heap.size) : Below B w w' := ⟨h.os, h.tape, h.output, h.size, fun k hk => h.block k (by omega) (by omega)⟩
theorem Off.of_below {R : Nat} {w w' : World} (h : Below w.heap.size w w') : Off R w w' := ⟨h.os, h.tape, h.output, h.size, fun k _ hk => h.block k hk⟩
theorem Off.alloc {R : Nat} {a w : World} (h : Off R a w) (o : Obj) : Off R a (w.alloc o) := h.trans (Off.of_below ((Below.refl _ _).alloc (Nat.le_refl _) o))

def Oddly (R p : Nat) (w : World) (e : Ending) (w' : World) : Prop := ∃ b : Bool, e = .returned (.bool b) ∧ Off R w w' ∧ ∃ p', p ≤ p' ∧ p' ≤ p + 1 ∧ Rd w' R p'

theorem odd (R p : Nat) (n : Int) (w : World) (h : Rd w R p) (hp : p ≤ 1000000000) (hn : n ≤ 1000000000) :
    Calls Try.prog 56 #[.pointer (some ⟨R, 0, none⟩), .int .i64 n] w (Oddly R p w) := by
  have H := Lib.hid h
  clear h
  by_cases hn1 : 0 < n
  · go_enter Try.func56, Try.ntmps56
    go_wp2_with fail
    refine (pick R p n _ H.out hp hn).mono ?_
    rintro e w1 ⟨k, rfl, hk0, hk1, ho, hr⟩
    have HO := Lib.hid ho
    have HR := Lib.hid hr
    clear ho hr hk1
    go_wp2_with fail
    go_ret
    exact ⟨_, rfl, HO.out, p + 1, by omega, by omega, HR.out⟩
  · go_enter Try.func56, Try.ntmps56
    go_wp2_with fail
    go_ret
    exact ⟨_, rfl, Off.refl _ _, p, by omega, by omega, H.out⟩
end Go.Proofs.Ytggebkgfldmipaa

namespace Go.Proofs.Ytggebkgfldmipaa
open Go Go.RowKit
attribute [local go_sem] World.cell?_alloc_some cell?_alloc2_some cell?_alloc3_some cell?_alloc4_some frozen?_alloc_some frozen?_alloc2_some frozen?_alloc3_some World.cell?_setCell_far new_ne0 new_ne1 new_ne2 new_ne3 lt2 lt3 lt4 lt5 lt6 lt7 lt8 lt9

def Gd (a b : Int) : Prop := (-29 ≤ a ∧ a ≤ 29 ∧ -29 ≤ b ∧ b ≤ 29) ∨ (a = 1001 ∧ b = 0) ∨ (a = 0 ∧ b = -1001) ∨ (a = 1000 ∧ b = 1000)
/-- A number was drawn. -/
def Gdrawn (R p : Nat) (w : World) (e : Ending) (w' : World) : Prop := ∃ a b : Int, e = .returned (.agg #[.int .i64 a, .int .i64 b]) ∧ Gd a b ∧ Off R w w' ∧ ∃ p', p ≤ p' ∧ p' ≤ p + 7 ∧ Rd w' R p'

theorem Rd_lt {w : World} {R p : Nat} (h : Rd w R p) : R < w.heap.size := by
  obtain ⟨a, l, c, h0, _⟩ := h; exact World.block_lt_of_cell? w ⟨R, 0, none⟩ h0
theorem Rd_alloc {w : World} {R p : Nat} {o : Obj} (h : Rd w R p) : Rd (w.alloc o) R p := by
  obtain ⟨a, l, c, h0, h1, hf, hB⟩ := h
  refine ⟨a, l, c, keepA h0, keepA h1, keepFA h1 hf, ?_⟩
  rcases hB with h | ⟨b, off, rfl, hne, hl, hc⟩
  · exact .inl h
  · exact .inr ⟨b, off, rfl, hne, hl, fun i hi => by obtain ⟨z, hz, hcz⟩ := hc i hi; exact ⟨z, hz, keepA hcz⟩⟩

/-- A store into another block than the reader's, and not into the code's: here a block made by the call. -/
theorem Rd_set2 {w : World} {R p b o : Nat} {v : Value} (hb : R < b) (h : Rd w R p) : Rd (w.setCell ⟨b, o, none⟩ v) R p := by
  obtain ⟨a, l, c, h0, h1, hf, hB⟩ := h
  refine ⟨a, l, c, keepS (by omega) h0, keepS (by omega) h1, keepFS hf, ?_⟩
  rcases hB with h | ⟨b, off, rfl, hne, hl, hc⟩
  · exact .inl h
  · exact .inr ⟨b, off, rfl, hne, hl, fun i hi => by obtain ⟨z, hz, hcz⟩ := hc i hi; exact ⟨z, hz, keepS (by omega) hcz⟩⟩
theorem Off.setCell {R : Nat} {a w : World} {p : Addr} {v : Value} (hp : a.heap.size ≤ p.block) (h : Off R a w) : Off R a (w.setCell p v) :=
  ⟨h.os, h.tape, h.output, by simp [World.setCell]; exact h.size, fun k hk hl => by rw [Below.heap_setCell _ _ _ _ (by omega)]; exact h.block k hk hl⟩
theorem Off.drew {R : Nat} {a w : World} (h : Off R a w) : Off R a w.drew := ⟨h.os, h.tape, h.output, h.size, h.block⟩
open Go Go.RowKit
theorem ofA {R : Nat} {a w : World} (h : Off R a w := by (repeat' (first | (with_reducible exact Off.refl _ _) | (with_reducible apply Off.alloc) | (with_reducible apply Off.drew) | ((with_reducible apply Off.setCell); focus (first | omega | (simp; done) | (simp; omega))) | (with_reducible refine Off.trans ?_ (by assumption))))) : Off R a w := h

set_option maxHeartbeats 2000000 in
theorem l20Gauss (R p : Nat) (n : Int) (w : World) (h : Rd w R p) (hp : p ≤ 900000000) (hn : n ≤ 1000000000) :
    Calls Try.prog 50 #[.pointer (some ⟨R, 0, none⟩), .int .i64 n] w (Gdrawn R p w) := by
  have hR := Rd_lt h
  have H := Lib.hid h
  clear h
  go_enter Try.func50, Try.ntmps50
  go_wp2_with fail
  (refine (pick R p 3 _ (Rd_alloc (Rd_alloc H.out)) (by omega) (by omega)).mono ?_; rintro e w1 ⟨k, rfl, hk0, hk1, ho1, hr1⟩; have hz1 := ho1.size; (repeat (first | rw [World.size_alloc] at hz1 | rw [World.size_setCell] at hz1 | rw [World.size_drew] at hz1)); have pp := T2.F ho1 (by omega) (b := w.heap.size) (x := _) (y := _) (t2A); obtain ⟨kk1, kk2, fkk1, fkk2⟩ := pp; have kk3 := Off.cell ho1 (b := w.heap.size + 1) (o := 0) (v := _) (by omega) (kcA); have kk4 := Off.cell ho1 (b := w.heap.size + 1) (o := 1) (v := _) (by omega) (kcA); have kk5 := Off.cell ho1 (b := w.heap.size + 1) (o := 2) (v := _) (by omega) (kcA); have Hho1 := Lib.hid ho1; clear ho1; have Hhr1 := Lib.hid hr1; clear hr1)
  obtain ⟨j, rfl⟩ := Int.eq_ofNat_of_zero_le hk0
  have hj : j < 3 := by omega
  have hcell : ∃ h : Int, 4 ≤ h ∧ h ≤ 30 ∧ w1.cell? ⟨w.heap.size + 1, j, none⟩ = some (.int .i64 h) := by
    obtain rfl | rfl | rfl : j = 0 ∨ j = 1 ∨ j = 2 := by omega
    · exact ⟨4, by omega, by omega, by assumption⟩
    · exact ⟨8, by omega, by omega, by assumption⟩
    · exact ⟨30, by omega, by omega, by assumption⟩
  obtain ⟨g, hg1, hg2, hg⟩ := hcell
  clear hk0 hk1
  go_wp2_with fail
  (refine (pick R (p + 1) g _ Hhr1.out (by omega) (by omega)).mono ?_; rintro e w2 ⟨k1, rfl, ha0, ha1, ho2, hr2⟩; have hz2 := ho2.size; (repeat (first | rw [World.size_alloc] at hz2 | rw [World.size_setCell] at hz2 | rw [World.size_drew] at hz2)); have pp := T2.F ho2 (by omega) (b := w.heap.size) (x := _) (y := _) (t2A); obtain ⟨kk6, kk7, fkk6, fkk7⟩ := pp; (try clear kk1 kk2 fkk1 fkk2 kk3 kk4 kk5); have Hho2 := Lib.hid ho2; clear ho2; have Hhr2 := Lib.hid hr2; clear hr2)
  go_wp2_with fail
  (refine (pick R (p + 1 + 1) g _ Hhr2.out (by omega) (by omega)).mono ?_; rintro e w3 ⟨k2, rfl, hb0, hb1, ho3, hr3⟩; have hz3 := ho3.size; (repeat (first | rw [World.size_alloc] at hz3 | rw [World.size_setCell] at hz3 | rw [World.size_drew] at hz3)); have pp := T2.F ho3 (by omega) (b := w.heap.size) (x := _) (y := _) (t2A); obtain ⟨kk8, kk9, fkk8, fkk9⟩ := pp; (try clear kk6 kk7 fkk6 fkk7); have Hho3 := Lib.hid ho3; clear ho3; have Hhr3 := Lib.hid hr3; clear hr3)
  go_wp2_with fail
  (refine (pick R (p + 1 + 1 + 1) g _ Hhr3.out (by omega) (by omega)).mono ?_; rintro e w4 ⟨k3, rfl, hc0, hc1, ho4, hr4⟩; have hz4 := ho4.size; (repeat (first | rw [World.size_alloc] at hz4 | rw [World.size_setCell] at hz4 | rw [World.size_drew] at hz4)); have pp := T2.F ho4 (by omega) (b := w.heap.size) (x := _) (y := _) (t2A); obtain ⟨kk10, kk11, fkk10, fkk11⟩ := pp; (try clear kk8 kk9 fkk8 fkk9); have Hho4 := Lib.hid ho4; clear ho4; have Hhr4 := Lib.hid hr4; clear hr4)
  go_wp2_with fail
  (refine (pick R (p + 1 + 1 + 1 + 1) g _ Hhr4.out (by omega) (by omega)).mono ?_; rintro e w5 ⟨k4, rfl, hd0, hd1, ho5, hr5⟩; have hz5 := ho5.size; (repeat (first | rw [World.size_alloc] at hz5 | rw [World.size_setCell] at hz5 | rw [World.size_drew] at hz5)); have pp := T2.F ho5 (by omega) (b := w.heap.size) (x := _) (y := _) (t2A); obtain ⟨kk12, kk13, fkk12, fkk13⟩ := pp; (try clear kk10 kk11 fkk10 fkk11); have Hho5 := Lib.hid ho5; clear ho5; have Hhr5 := Lib.hid hr5; clear hr5)
  have a1 : k1 ≤ 29 := by omega
  have a2 : k2 ≤ 29 := by omega
  have a3 : k3 ≤ 29 := by omega
  have a4 : k4 ≤ 29 := by omega
  clear ha1 hb1 hc1 hd1
  go_wp2_with fail
  (refine (odd R (p + 1 + 1 + 1 + 1 + 1) n _ (Rd_alloc Hhr5.out) (by omega) (by omega)).mono ?_; rintro e w6 ⟨t, rfl, ho6, q, hq1, hq2, hr6⟩; have hz6 := ho6.size; (repeat (first | rw [World.size_alloc] at hz6 | rw [World.size_setCell] at hz6 | rw [World.size_drew] at hz6)); have pp := T2.F ho6 (by omega) (b := w.heap.size) (x := _) (y := _) (t2A); obtain ⟨kk14, kk15, fkk14, fkk15⟩ := pp; have pp := C2.F ho6 (by omega) (b := w5.heap.size) (x := _) (y := _) (c2A); obtain ⟨kk16, kk17⟩ := pp; (try clear kk12 kk13 fkk12 fkk13); have Hho6 := Lib.hid ho6; clear ho6; have Hhr6 := Lib.hid hr6; clear hr6)
  cases t
  · go_wp2_with fail
    have ho1 := Hho1.out
    have ho2 := Hho2.out
    have ho3 := Hho3.out
    have ho4 := Hho4.out
    have ho5 := Hho5.out
    have ho6 := Hho6.out
    refine bodyPost_ret (v := .agg #[.int .i64 (k1 - k2), .int .i64 (k3 - k4)]) (by simp [results, Try.results50, go_sem, *]) rfl ?_; exact ⟨_, _, rfl, .inl (by omega), ofA, q, by omega, by omega, Rd_set2 (by omega) (Rd_set2 (by omega) Hhr6.out)⟩
  · go_wp2_with fail
    (refine (pick R q 3 _ (Rd_alloc Hhr6.out) (by omega) (by omega)).mono ?_; rintro e w7 ⟨k, rfl, hk0, hk1, ho7, hr7⟩; have hz7 := ho7.size; (repeat (first | rw [World.size_alloc] at hz7 | rw [World.size_setCell] at hz7 | rw [World.size_drew] at hz7)); have pp := T2.F ho7 (by omega) (b := w.heap.size) (x := _) (y := _) (t2A); obtain ⟨kk18, kk19, fkk18, fkk19⟩ := pp; have kk20 := Off.cell ho7 (b := w6.heap.size) (o := 0) (v := _) (by omega) (kcA); have kk21 := Off.cell ho7 (b := w6.heap.size) (o := 1) (v := _) (by omega) (kcA); have kk22 := Off.cell ho7 (b := w6.heap.size) (o := 2) (v := _) (by omega) (kcA); have kk23 := Off.cell ho7 (b := w6.heap.size) (o := 3) (v := _) (by omega) (kcA); have kk24 := Off.cell ho7 (b := w6.heap.size) (o := 4) (v := _) (by omega) (kcA); have kk25 := Off.cell ho7 (b := w6.heap.size) (o := 5) (v := _) (by omega) (kcA); (try clear kk14 kk15 fkk14 fkk15 kk16 kk17); have Hho7 := Lib.hid ho7; clear ho7; have Hhr7 := Lib.hid hr7; clear hr7)
    have hk2 : k < 3 := by omega
    clear hk1
    have ho1 := Hho1.out
    have ho2 := Hho2.out
    have ho3 := Hho3.out
    have ho4 := Hho4.out
    have ho5 := Hho5.out
    have ho6 := Hho6.out
    have ho7 := Hho7.out
    obtain rfl | rfl | rfl : k = 0 ∨ k = 1 ∨ k = 2 := by omega
    · go_wp2_with fail
      refine bodyPost_ret (v := .agg #[.int .i64 1001, .int .i64 0]) (by simp [results, Try.results50, go_sem, *]) rfl ?_; exact ⟨_, _, rfl, .inr (.inl (by simp)), ofA, q + 1, by omega, by omega, Rd_set2 (by omega) (Rd_set2 (by omega) Hhr7.out)⟩
    · go_wp2_with fail
      refine bodyPost_ret (v := .agg #[.int .i64 0, .int .i64 (-1001)]) (by simp [results, Try.results50, go_sem, *]) rfl ?_; exact ⟨_, _, rfl, .inr (.inr (.inl (by simp))), ofA, q + 1, by omega, by omega, Rd_set2 (by omega) (Rd_set2 (by omega) Hhr7.out)⟩
    · go_wp2_with fail
      refine bodyPost_ret (v := .agg #[.int .i64 1000, .int .i64 1000]) (by simp [results, Try.results50, go_sem, *]) rfl ?_; exact ⟨_, _, rfl, .inr (.inr (.inr (by simp))), ofA, q + 1, by omega, by omega, Rd_set2 (by omega) (Rd_set2 (by omega) Hhr7.out)⟩
end Go.Proofs.Ytggebkgfldmipaa

namespace Go.Proofs.Ytggebkgfldmipaa
open Go Go.RowKit
attribute [local go_sem] World.cell?_alloc_some cell?_alloc2_some cell?_alloc3_some cell?_alloc4_some frozen?_alloc_some frozen?_alloc2_some frozen?_alloc3_some World.cell?_setCell_far new_ne0 new_ne1 new_ne2 new_ne3 lt2 lt3 lt4 lt5 lt6 lt7 lt8 lt9

/-- What is known of a slice of integers that came in: it is nil, or leads to a row of cells. -/
def IsRow (k : IntKind) (w : World) (a : Option Addr) (len cap : Nat) (zs : List Int) : Prop :=
  (a = none ∧ len = 0 ∧ cap = 0 ∧ zs = []) ∨
  ∃ x, a = some x ∧ len ≤ cap ∧ cap ≤ maxLen ∧ zs.length = cap ∧ (∀ i, i < zs.length → w.cell? (x.add i) = some (.int k (zs.getD i 0))) ∧ ∀ n ∈ zs, (Lit.int k n).wf = true
theorem IsRow.below {k : IntKind} {W w1 : World} {a : Option Addr} {len cap : Nat} {zs : List Int} (hb : Below W.heap.size W w1) (h : IsRow k W a len cap zs) : IsRow k w1 a len cap zs := by
  rcases h with h | ⟨x, h1, h2, h3, h4, h5, h6⟩
  · exact .inl h
  · exact .inr ⟨x, h1, h2, h3, h4, fun i hi => keep hb (h5 i hi), h6⟩
theorem IsRow.alloc {k : IntKind} {w : World} {o : Obj} {a : Option Addr} {len cap : Nat} {zs : List Int} (h : IsRow k w a len cap zs) : IsRow k (w.alloc o) a len cap zs :=
  h.below ((Below.refl _ _).alloc (Nat.le_refl _) o)

def Opened (w : World) (e : Ending) (w' : World) : Prop := e = .returned (.pointer (some ⟨w.heap.size, 0, none⟩)) ∧ Rd w' w.heap.size 0 ∧ Below w.heap.size w w'

theorem l20Open (a : Option Addr) (len cap : Nat) (zs : List Int) (w : World) (h : IsRow .u8 w a len cap zs) :
    Calls Try.prog 34 #[.slice a len cap] w (Opened w) := by
  rcases h with ⟨rfl, rfl, rfl, rfl⟩ | ⟨x, rfl, hl, hm, hz, hcell, hwz⟩
  · go_enter Try.func34, Try.ntmps34
    go_wp2_with fail
    go_ret
    exact ⟨rfl, ⟨_, _, _, kcA, kcA, kfA, .inl rfl⟩, blA⟩
  · unfold maxLen at hm
    have HW := Lib.hid hwz
    have HC := Lib.hid hcell
    clear hwz hcell
    have hbyt : ∀ l, l ≤ cap → l ≤ 2000 → Byt (w.alloc (.cells #[.slice (some x) l cap, .int .i64 0] 74)) w.heap.size (some x) l := by
      intro l hl1 hl2
      by_cases h0 : l = 0
      · exact .inl h0
      · have hc0 := HC.out 0 (by omega)
        obtain ⟨b, off, spot⟩ := x
        have hspot : spot = none := by simpa [Addr.add] using World.cell?_spot hc0
        subst hspot
        refine .inr ⟨b, off, rfl, ?_, hl2, fun i hi => ?_⟩
        · exact World.block_lt_of_cell? w _ hc0
        · have hci := HC.out i (by omega)
          have hw := HW.out (zs.getD i 0) (by rw [List.getD_eq_getElem?_getD, List.getElem?_eq_getElem (by omega)]; exact List.getElem_mem _)
          have hr : 0 ≤ zs.getD i 0 ∧ zs.getD i 0 ≤ 255 := bounds_u8 hw
          refine ⟨(zs.getD i 0).toNat, by omega, keepA ?_⟩
          rw [Int.toNat_of_nonneg hr.1]
          rw [← Go.WideShapes.add_plain]; exact hci
    have HB := Lib.hid hbyt
    clear hbyt
    by_cases h2 : len ≤ 2000
    · go_enter Try.func34, Try.ntmps34
      go_wp2_with fail
      go_ret
      exact ⟨rfl, ⟨_, _, _, kcA, kcA, kfA, HB.out _ hl h2⟩, blA⟩
    · have h3 : 2000 < len := by omega
      have h4 : 2000 ≤ cap := by omega
      go_enter Try.func34, Try.ntmps34
      go_wp2_with fail
      go_ret
      exact ⟨rfl, ⟨_, _, _, kcA, kcA, kfA, HB.out _ h4 (by omega)⟩, blA⟩
def OpenedAt (R : Nat) (w : World) (e : Ending) (w' : World) : Prop := e = .returned (.pointer (some ⟨R, 0, none⟩)) ∧ Rd w' R 0 ∧ Below w.heap.size w w'
theorem l20Open_at (R : Nat) (a : Option Addr) (len cap : Nat) (zs : List Int) (w : World) (h : IsRow .u8 w a len cap zs) (hR : R = w.heap.size) :
    Calls Try.prog 34 #[.slice a len cap] w (OpenedAt R w) := by
  subst hR; exact l20Open a len cap zs w h
end Go.Proofs.Ytggebkgfldmipaa

namespace Go.Proofs.Ytggebkgfldmipaa
open Go Go.RowKit
attribute [local go_sem] World.cell?_alloc_some cell?_alloc2_some cell?_alloc3_some cell?_alloc4_some frozen?_alloc_some frozen?_alloc2_some frozen?_alloc3_some World.cell?_setCell_far new_ne0 new_ne1 new_ne2 new_ne3 lt2 lt3 lt4 lt5 lt6 lt7 lt8 lt9

/-- One number was drawn; two numbers were drawn. -/
def Drawn1 (w : World) (e : Ending) (w' : World) : Prop := ∃ a b : Int, e = .returned (.agg #[.int .i64 a, .int .i64 b]) ∧ Gd a b ∧ Below w.heap.size w w'
def Drawn2 (w : World) (e : Ending) (w' : World) : Prop := ∃ a b c d : Int, e = .returned (.tuple #[.agg #[.int .i64 a, .int .i64 b], .agg #[.int .i64 c, .int .i64 d]]) ∧ Gd a b ∧ Gd c d ∧ Below w.heap.size w w'
def Gdrawn2 (R p : Nat) (w : World) (e : Ending) (w' : World) : Prop := ∃ a b c d : Int, e = .returned (.tuple #[.agg #[.int .i64 a, .int .i64 b], .agg #[.int .i64 c, .int .i64 d]]) ∧ Gd a b ∧ Gd c d ∧ Off R w w' ∧ ∃ p', p ≤ p' ∧ p' ≤ p + 14 ∧ Rd w' R p'

set_option maxHeartbeats 1000000 in
theorem l20Two (R p : Nat) (w : World) (h : Rd w R p) (hp : p ≤ 800000000) :
    Calls Try.prog 41 #[.pointer (some ⟨R, 0, none⟩)] w (Gdrawn2 R p w) := by
  have hR := Rd_lt h
  have H := Lib.hid h
  clear h
  go_enter Try.func41, Try.ntmps41
  go_wp2_with fail
  (refine (l20Gauss R p 14 _ (Rd_alloc (Rd_alloc H.out)) (by omega) (by omega)).mono ?_; rintro e w1 ⟨a, b, rfl, hg1, ho1, p1, hp1, hp2, hr1⟩; have hz1 := ho1.size; (repeat (first | rw [World.size_alloc] at hz1 | rw [World.size_setCell] at hz1 | rw [World.size_drew] at hz1)); have pp := T2.F ho1 (by omega) (b := w.heap.size) (x := _) (y := _) (t2A); obtain ⟨kk1, kk2, fkk1, fkk2⟩ := pp; have pp := T2.F ho1 (by omega) (b := w.heap.size + 1) (x := _) (y := _) (t2A); obtain ⟨kk3, kk4, fkk3, fkk4⟩ := pp; have Hho1 := Lib.hid ho1; clear ho1; have Hhr1 := Lib.hid hr1; clear hr1; have Hhg1 := Lib.hid hg1; clear hg1)
  go_wp2_with fail
  (refine (l20Gauss R p1 14 _ Hhr1.out (by omega) (by omega)).mono ?_; rintro e w2 ⟨c, d, rfl, hg2, ho2, p2, hp3, hp4, hr2⟩; have hz2 := ho2.size; (repeat (first | rw [World.size_alloc] at hz2 | rw [World.size_setCell] at hz2 | rw [World.size_drew] at hz2)); have pp := T2.F ho2 (by omega) (b := w.heap.size) (x := _) (y := _) (t2A); obtain ⟨kk5, kk6, fkk5, fkk6⟩ := pp; have pp := T2.F ho2 (by omega) (b := w.heap.size + 1) (x := _) (y := _) (t2A); obtain ⟨kk7, kk8, fkk7, fkk8⟩ := pp; (try clear kk1 kk2 fkk1 fkk2 kk3 kk4 fkk3 fkk4); have Hho2 := Lib.hid ho2; clear ho2; have Hhr2 := Lib.hid hr2; clear hr2; have Hhg2 := Lib.hid hg2; clear hg2)
  go_wp2_with fail
  have ho1 := Hho1.out
  have ho2 := Hho2.out
  refine bodyPost_ret (v := .tuple #[.agg #[.int .i64 a, .int .i64 b], .agg #[.int .i64 c, .int .i64 d]]) (by simp [results, Try.results41, go_sem, *]) rfl ?_; exact ⟨a, b, c, d, rfl, Hhg1.out, Hhg2.out, ofA, p2, by omega, by omega, Rd_set2 (by omega) (Rd_set2 (by omega) (Rd_set2 (by omega) (Rd_set2 (by omega) Hhr2.out)))⟩

theorem drawMinusOf (a : Option Addr) (len cap : Nat) (zs : List Int) (w : World) (h : IsRow .u8 w a len cap zs) :
    Calls Try.prog 25 #[.slice a len cap] w (Drawn1 w) := by
  go_enter Try.func25, Try.ntmps25
  go_wp2_with fail
  (refine (l20Open_at (w.heap.size + 1) a len cap zs _ h.alloc (by simp)).mono ?_; rintro e w1 ⟨rfl, hr1, hb1⟩; have hz1 := hb1.size; (repeat (first | rw [World.size_alloc] at hz1 | rw [World.size_setCell] at hz1 | rw [World.size_drew] at hz1)); have pp := T2.K hb1 (b := w.heap.size) (x := _) (y := _) (t2A); obtain ⟨kk1, kk2, fkk1, fkk2⟩ := pp)
  have Hr1 := Lib.hid hr1
  have Hb1 := Lib.hid hb1
  clear hr1 hb1
  go_wp2_with fail
  (refine (l20Gauss (w.heap.size + 1) 0 9 _ Hr1.out (by omega) (by omega)).mono ?_; rintro e w2 ⟨x, y, rfl, hg2, ho2, p2, hp1, hp2, hr2⟩; have hz2 := ho2.size; (repeat (first | rw [World.size_alloc] at hz2 | rw [World.size_setCell] at hz2 | rw [World.size_drew] at hz2)); have pp := T2.F ho2 (by omega) (b := w.heap.size) (x := _) (y := _) (t2A); obtain ⟨kk3, kk4, fkk3, fkk4⟩ := pp; (try clear kk1 kk2 fkk1 fkk2); have Hhg2 := Lib.hid hg2; clear hg2)
  have Ho2 := Lib.hid (ho2.below (B := w.heap.size) (by omega) (by omega))
  clear ho2 hr2 hp1 hp2
  go_wp2_with fail
  have hb1 := Hb1.out
  have ho2 := Ho2.out
  refine bodyPost_ret (v := .agg #[.int .i64 x, .int .i64 y]) (by simp [results, Try.results25, go_sem, *]) rfl ?_; exact ⟨x, y, rfl, Hhg2.out, blA⟩

end Go.Proofs.Ytggebkgfldmipaa
