import Derived.Test.YtpjememmogaeiaaProg
import Derived.Test.YtpjememmogaeiaaBase
import Derived.Deep.QuietTactic
import Derived.BigQuiet
import Derived.IntWalk
namespace Go.Proofs.Ytpjememmogaeiaa
open Go Go.RowKit
attribute [local go_sem] World.cell?_alloc_some cell?_alloc2_some cell?_alloc3_some cell?_alloc4_some frozen?_alloc_some frozen?_alloc2_some frozen?_alloc3_some World.cell?_setCell_far new_ne0 new_ne1 new_ne2 new_ne3 lt2 lt3 lt4 lt5 lt6 lt7 lt8 lt9

def Byt (w : World) (R : Nat) (a : Option Addr) (len : Nat) : Prop := len = 0 ∨ ∃ b off, a = some ⟨b, off, none⟩ ∧ b < R ∧ len ≤ 2000 ∧ ∀ i, i < len → ∃ z : Nat, z ≤ 255 ∧ w.cell? ⟨b, off + i, none⟩ = some (.int .u8 z)
def Rd (w : World) (R p : Nat) : Prop := ∃ a len cap, w.cell? ⟨R, 0, none⟩ = some (.slice a len cap) ∧ w.cell? ⟨R, 1, none⟩ = some (.int .i64 p) ∧ w.frozen? ⟨R, 1, none⟩ = false ∧ Byt w R a len
structure Off (R : Nat) (w w' : World) : Prop where
  os : w'.os = w.os
  tape : w'.tape = w.tape
  output : w'.output = w.output
  size : w.heap.size ≤ w'.heap.size
  block : ∀ k, k ≠ R → k < w.heap.size → w'.heap[k]? = w.heap[k]?
/-- A draw was made: a number below n. -/
def Picked (R p : Nat) (n : Int) (w : World) (e : Ending) (w' : World) : Prop := ∃ k : Int, e = .returned (.int .i64 k) ∧ 0 ≤ k ∧ (k < n ∨ k = 0) ∧ Off R w w' ∧ Rd w' R (p + 1)

theorem Off.mk_set {R : Nat} {w : World} {v : Value} : Off R w (w.setCell ⟨R, 1, none⟩ v) :=
  ⟨rfl, rfl, rfl, by simp, fun k hk _ => Below.heap_setCell _ _ _ _ hk⟩
theorem Off.drewN {R : Nat} {w w' : World} {n : Nat} (h : Off R w w') : Off R w (w'.drewN n) := ⟨h.os, h.tape, h.output, h.size, h.block⟩
theorem Rd_drewN {R p n : Nat} {w : World} (h : Rd w R p) : Rd (w.drewN n) R p := h
theorem Rd_set {R p : Nat} {w : World} {a : Option Addr} {len cap : Nat} (h0 : w.cell? ⟨R, 0, none⟩ = some (.slice a len cap)) (h1 : w.cell? ⟨R, 1, none⟩ = some (.int .i64 p)) (hf : w.frozen? ⟨R, 1, none⟩ = false) (hB : Byt w R a len) :
    Rd (w.setCell ⟨R, 1, none⟩ (.int .i64 (↑p + 1))) R (p + 1) := by
  refine ⟨a, len, cap, ?_, ?_, by simpa using hf, ?_⟩
  · rw [World.cell?_setCell_other _ _ _ _ (by intro e; injection e; omega)]; exact h0
  · rw [World.cell?_setCell_same _ _ _ h1]; simp
  · rcases hB with h | ⟨b, off, rfl, hne, hl, hc⟩
    · exact .inl h
    · refine .inr ⟨b, off, rfl, hne, hl, fun i hi => ?_⟩
      obtain ⟨z, hz, hcz⟩ := hc i hi
      exact ⟨z, hz, by rw [World.cell?_setCell_other _ _ _ _ (by intro e; injection e; omega)]; exact hcz⟩

theorem xor_nonneg (a b : Int) (h1 : 0 ≤ a) (h2 : a < 4611686018427387904) (h3 : 0 ≤ b) (h4 : b < 4611686018427387904) : 0 ≤ bits .xor .i64 a b := by
  obtain ⟨x, rfl⟩ := Int.eq_ofNat_of_zero_le h1
  obtain ⟨y, rfl⟩ := Int.eq_ofNat_of_zero_le h3
  have hx : x ^^^ y < 2 ^ 62 := Nat.xor_lt_two_pow (by omega) (by omega)
  have e1 : (BitVec.ofInt 64 (x : Int)).toNat = x := by
    rw [BitVec.ofInt_natCast, BitVec.toNat_ofNat]; exact Nat.mod_eq_of_lt (by omega)
  have e2 : (BitVec.ofInt 64 (y : Int)).toNat = y := by
    rw [BitVec.ofInt_natCast, BitVec.toNat_ofNat]; exact Nat.mod_eq_of_lt (by omega)
  show 0 ≤ IntKind.i64.wrap ((BitVec.ofInt 64 (x : Int) ^^^ BitVec.ofInt 64 (y : Int)).toNat : Int)
  rw [BitVec.toNat_xor, e1, e2, IntWalk.i64_in _ (by omega)]
  omega

set_option maxHeartbeats 1000000 in
theorem pick (R p : Nat) (n : Int) (w : World) (h : Rd w R p) (hp : p ≤ 1000000000) (hn : n ≤ 1000000000) :
    Calls Try.prog 57 #[.pointer (some ⟨R, 0, none⟩), .int .i64 n] w (Picked R p n w) := by
  obtain ⟨a, len, cap, h0, h1, hf, hB⟩ := h
  have hend := Rd_set h0 h1 hf hB
  have HE := Lib.hid hend
  clear hend
  by_cases hn1 : n < 1
  · go_enter Try.func57, Try.ntmps57
    go_wp2
    go_ret
    exact ⟨0, rfl, by omega, by omega, Off.mk_set, HE.out⟩
  by_cases hl : len = 0
  · subst hl
    clear hB
    have hn2 : decide (n < 1) = false := by simp; omega
    go_enter Try.func57, Try.ntmps57
    go_wp2
    go_ret
    exact ⟨0, rfl, by omega, by omega, Off.mk_set, HE.out⟩
  rcases hB with hB | ⟨b, off, rfl, hne, hl2, hc⟩
  · exact absurd hB hl
  have hn2 : decide (n < 1) = false := by simp; omega
  have hl3 : ((len : Int) == 0) = false := by simp; omega
  by_cases hpl : p < len
  · obtain ⟨z, hz, hcz⟩ := hc p hpl
    clear hc
    have hneR : ¬ R = b := by omega
    go_enter Try.func57, Try.ntmps57
    go_wp2
    go_ret
    exact ⟨(z : Int) % n, rfl, Int.emod_nonneg _ (by omega), .inl (Int.emod_lt_of_pos _ (by omega)), Off.mk_set, HE.out⟩
  · have hlp : 0 < len := by omega
    have i1 : p % len < len := Nat.mod_lt _ hlp
    have i2 : (p * 7 + 3) % len < len := Nat.mod_lt _ hlp
    obtain ⟨z1, hz1, hc1⟩ := hc _ i1
    obtain ⟨z2, hz2, hc2⟩ := hc _ i2
    clear hc
    have d1 : p / len ≤ p := Nat.div_le_self _ _
    have hneR : ¬ R = b := by omega
    have j1 : (0 : Int) ≤ (p : Int) % (len : Int) := Int.emod_nonneg _ (by omega)
    have j2 : (p : Int) % (len : Int) < (len : Int) := Int.emod_lt_of_pos _ (by omega)
    have j3 : (0 : Int) ≤ ((p : Int) * 7 + 3) % (len : Int) := Int.emod_nonneg _ (by omega)
    have j4 : ((p : Int) * 7 + 3) % (len : Int) < (len : Int) := Int.emod_lt_of_pos _ (by omega)
    have j5 : (0 : Int) ≤ (p : Int) / (len : Int) := Int.ediv_nonneg (by omega) (by omega)
    have j6 : (p : Int) / (len : Int) ≤ 1000000000 := by
      have : (p : Int) / (len : Int) ≤ (p : Int) := Int.ediv_le_self _ (by omega)
      omega
    go_enter Try.func57, Try.ntmps57
    go_wp2
    go_quiet (fail)
    go_wp2
    go_ret
    have x0 : 0 ≤ (z1 : Int) * 131 + z2 * 1117 + p * 29 + (p : Int) / len * 53 := by omega
    have x1 : (z1 : Int) * 131 + z2 * 1117 + p * 29 + (p : Int) / len * 53 < 4611686018427387904 := by omega
    generalize (z1 : Int) * 131 + z2 * 1117 + p * 29 + (p : Int) / len * 53 = x at x0 x1 ⊢
    have y0 : 0 ≤ bits .xor .i64 x (x / 64) := xor_nonneg _ _ x0 x1 (by omega) (by omega)
    refine ⟨_, rfl, ?_, .inl ?_, Off.mk_set.drewN, Rd_drewN HE.out⟩
    · rw [Int.tmod_eq_emod_of_nonneg y0]; exact Int.emod_nonneg _ (by omega)
    · rw [Int.tmod_eq_emod_of_nonneg y0]; exact Int.emod_lt_of_pos _ (by omega)

theorem Off.cell {R : Nat} {w w' : World} (h : Off R w w') {b o : Nat} {v : Value} (hb : b ≠ R) (hc : w.cell? ⟨b, o, none⟩ = some v) : w'.cell? ⟨b, o, none⟩ = some v := by
  rw [World.cell?_of_block (w := w) (h.block b hb (World.block_lt_of_cell? w ⟨b, o, none⟩ hc))]; exact hc
theorem Off.frozen {R : Nat} {w w' : World} (h : Off R w w') {b o : Nat} {v : Value} (hb : b ≠ R) (hc : w.cell? ⟨b, o, none⟩ = some v) (hf : w.frozen? ⟨b, o, none⟩ = false) : w'.frozen? ⟨b, o, none⟩ = false := by
  rw [World.frozen?_of_block (w := w) (h.block b hb (World.block_lt_of_cell? w ⟨b, o, none⟩ hc))]; exact hf
theorem C2.F {R : Nat} {w w' : World} {b : Nat} {x y : Value} (h : Off R w w') (hb : b ≠ R) (t : C2 w b x y) : C2 w' b x y := ⟨h.cell hb t.c0, h.cell hb t.c1⟩
theorem T2.F {R : Nat} {w w' : World} {b : Nat} {x y : Value} (h : Off R w w') (hb : b ≠ R) (t : T2 w b x y) : T2 w' b x y := ⟨h.cell hb t.c0, h.cell hb t.c1, h.frozen hb t.c0 t.f0, h.frozen hb t.c1 t.f1⟩
theorem Off.refl (R : Nat) (w : World) : Off R w w := ⟨rfl, rfl, rfl, Nat.le_refl _, fun _ _ _ => rfl⟩
theorem Off.trans {R : Nat} {a b c : World} (h : Off R a b) (k : Off R b c) : Off R a c :=
  ⟨k.os.trans h.os, k.tape.trans h.tape, k.output.trans h.output, Nat.le_trans h.size k.size, fun i hi hl => (k.block i hi (Nat.lt_of_lt_of_le hl h.size)).trans (h.block i hi hl)⟩
theorem Off.below {R B : Nat} {w w' : World} (h : Off R w w') (hR : B ≤ R) (hB : B ≤ w.heap.size) : Below B w w' := ⟨h.os, h.tape, h.output, h.size, fun k hk => h.block k (by omega) (by omega)⟩
theorem Off.of_below {R : Nat} {w w' : World} (h : Below w.heap.size w w') : Off R w w' := ⟨h.os, h.tape, h.output, h.size, fun k _ hk => h.block k hk⟩
theorem Off.alloc {R : Nat} {a w : World} (h : Off R a w) (o : Obj) : Off R a (w.alloc o) := h.trans (Off.of_below ((Below.refl _ _).alloc (Nat.le_refl _) o))

def Oddly (R p : Nat) (w : World) (e : Ending) (w' : World) : Prop := ∃ b : Bool, e = .returned (.bool b) ∧ Off R w w' ∧ ∃ p', p ≤ p' ∧ p' ≤ p + 1 ∧ Rd w' R p'

theorem odd (R p : Nat) (n : Int) (w : World) (h : Rd w R p) (hp : p ≤ 1000000000) (hn : n ≤ 1000000000) :
    Calls Try.prog 74 #[.pointer (some ⟨R, 0, none⟩), .int .i64 n] w (Oddly R p w) := by
  have H := Lib.hid h
  clear h
  by_cases hn1 : 0 < n
  · go_enter Try.func74, Try.ntmps74
    go_wp2_with fail
    refine (pick R p n _ H.out hp hn).mono ?_
    rintro e w1 ⟨k, rfl, hk0, hk1, ho, hr⟩
    have HO := Lib.hid ho
    have HR := Lib.hid hr
    clear ho hr hk1
    go_wp2_with fail
    go_ret
    exact ⟨_, rfl, HO.out, p + 1, by omega, by omega, HR.out⟩
  · go_enter Try.func74, Try.ntmps74
    go_wp2_with fail
    go_ret
    exact ⟨_, rfl, Off.refl _ _, p, by omega, by omega, H.out⟩
end Go.Proofs.Ytpjememmogaeiaa
