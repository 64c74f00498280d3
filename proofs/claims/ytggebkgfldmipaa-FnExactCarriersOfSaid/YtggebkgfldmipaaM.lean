import Derived.Test.YtggebkgfldmipaaB
import Derived.Test.YtggebkgfldmipaaC
namespace Go.Proofs.Ytggebkgfldmipaa
open Go Go.RowKit
attribute [local go_sem] World.cell?_alloc_some cell?_alloc2_some cell?_alloc3_some cell?_alloc4_some frozen?_alloc_some frozen?_alloc2_some frozen?_alloc3_some World.cell?_setCell_far new_ne0 new_ne1 new_ne2 new_ne3 lt2 lt3 lt4 lt5 lt6 lt7 lt8 lt9

def plO (a b c d : Int) : Bool := gok a b && gok c d && gok (a + c) (b + d)
def plA (a b c d : Int) : Int := if plO a b c d then a + c else 0
def plB (a b c d : Int) : Int := if plO a b c d then b + d else 0
def tiO (a b c d : Int) : Bool := gok a b && gok c d && gok (a * c - b * d) (a * d + b * c)
def tiA (a b c d : Int) : Int := if tiO a b c d then a * c - b * d else 0
def tiB (a b c d : Int) : Int := if tiO a b c d then a * d + b * c else 0
def mnA (a b : Int) : Int := if gok a b then -a else 0
def mnB (a b : Int) : Int := if gok a b then -b else 0
def ovA (a b : Int) : Int := if gok a b then a else 0
def ovB (a b : Int) : Int := if gok a b then -b else 0
def nrm (a b : Int) : Int := if gok a b then a * a + b * b else -1
theorem plO_t {a b c d : Int} (k1 : gok a b = true) (k2 : gok c d = true) (k3 : gok (a + c) (b + d) = true) : plO a b c d = true ∧ plA a b c d = a + c ∧ plB a b c d = b + d := by simp [plO, plA, plB, k1, k2, k3]
theorem plO_f {a b c d : Int} (h : (gok a b && gok c d && gok (a + c) (b + d)) = false) : plO a b c d = false ∧ plA a b c d = 0 ∧ plB a b c d = 0 := by simp only [plO, plA, plB, h]; simp
theorem tiO_t {a b c d : Int} (k1 : gok a b = true) (k2 : gok c d = true) (k3 : gok (a * c - b * d) (a * d + b * c) = true) : tiO a b c d = true ∧ tiA a b c d = a * c - b * d ∧ tiB a b c d = a * d + b * c := by simp [tiO, tiA, tiB, k1, k2, k3]
theorem tiO_f {a b c d : Int} (h : (gok a b && gok c d && gok (a * c - b * d) (a * d + b * c)) = false) : tiO a b c d = false ∧ tiA a b c d = 0 ∧ tiB a b c d = 0 := by simp only [tiO, tiA, tiB, h]; simp

theorem fold_Plus (a b c d : Int) (B : Nat) (w : World) (h0 : w.cell? ⟨B, 0, none⟩ = some (.int .i64 a)) (h1 : w.cell? ⟨B, 1, none⟩ = some (.int .i64 b)) (h2 : w.cell? ⟨B, 2, none⟩ = some (.int .i64 c)) (h3 : w.cell? ⟨B, 3, none⟩ = some (.int .i64 d)) :
    Calls Try.prog 47 #[.agg #[.int .i64 0, .int .i64 0], .slice (some ⟨B, 0, none⟩) 2 2, .func (.func 40) #[] #[], .func (.func 71) #[] #[]] w fun e w' => e = .returned (.tuple #[.agg #[.int .i64 (plA a b c d), .int .i64 (plB a b c d)], .bool (plO a b c d)]) ∧ Below w.heap.size w w' := by
  cases h : gok a b && gok c d && gok (a + c) (b + d)
  · obtain ⟨e1, e2, e3⟩ := plO_f h
    rw [e1, e2, e3]
    cases k1 : gok a b
    · exact fold_Plus_1 a b c d B w h0 h1 h2 h3 k1
    · cases k2 : gok c d
      · exact fold_Plus_2 a b c d B w h0 h1 h2 h3 k1 k2
      · exact fold_Plus_3 a b c d B w h0 h1 h2 h3 k1 k2 (by simpa [k1, k2] using h)
  · have h' := h
    simp only [Bool.and_eq_true] at h'
    obtain ⟨e1, e2, e3⟩ := plO_t h'.1.1 h'.1.2 h'.2
    rw [e1, e2, e3]; exact fold_Plus_4 a b c d B w h0 h1 h2 h3 h'.1.1 h'.1.2 h'.2
theorem fold_Times (a b c d : Int) (B : Nat) (w : World) (h0 : w.cell? ⟨B, 0, none⟩ = some (.int .i64 a)) (h1 : w.cell? ⟨B, 1, none⟩ = some (.int .i64 b)) (h2 : w.cell? ⟨B, 2, none⟩ = some (.int .i64 c)) (h3 : w.cell? ⟨B, 3, none⟩ = some (.int .i64 d)) :
    Calls Try.prog 47 #[.agg #[.int .i64 1, .int .i64 0], .slice (some ⟨B, 0, none⟩) 2 2, .func (.func 40) #[] #[], .func (.func 48) #[] #[]] w fun e w' => e = .returned (.tuple #[.agg #[.int .i64 (tiA a b c d), .int .i64 (tiB a b c d)], .bool (tiO a b c d)]) ∧ Below w.heap.size w w' := by
  cases h : gok a b && gok c d && gok (a * c - b * d) (a * d + b * c)
  · obtain ⟨e1, e2, e3⟩ := tiO_f h
    rw [e1, e2, e3]
    cases k1 : gok a b
    · exact fold_Times_1 a b c d B w h0 h1 h2 h3 k1
    · cases k2 : gok c d
      · exact fold_Times_2 a b c d B w h0 h1 h2 h3 k1 k2
      · exact fold_Times_3 a b c d B w h0 h1 h2 h3 k1 k2 (by simpa [k1, k2] using h)
  · have h' := h
    simp only [Bool.and_eq_true] at h'
    obtain ⟨e1, e2, e3⟩ := tiO_t h'.1.1 h'.1.2 h'.2
    rw [e1, e2, e3]; exact fold_Times_4 a b c d B w h0 h1 h2 h3 h'.1.1 h'.1.2 h'.2
theorem iTimesOf (a b c d : Int) (w : World) :
    Calls Try.prog 20 #[.agg #[.int .i64 a, .int .i64 b], .agg #[.int .i64 c, .int .i64 d]] w fun e w' => e = .returned (.tuple #[.agg #[.int .i64 (tiA a b c d), .int .i64 (tiB a b c d)], .bool (tiO a b c d)]) ∧ Below w.heap.size w w' := by
  go_enter Try.func20, Try.ntmps20
  go_wp2_with fail
  (refine (fold_Times a b c d _ _ (kcA) (kcA) (kcA) (kcA)).mono ?_; rintro e w1 ⟨rfl, hb1⟩; have hz1 := hb1.size; (repeat (first | rw [World.size_alloc] at hz1 | rw [World.size_setCell] at hz1 | rw [World.size_drew] at hz1)); have pp := T2.K hb1 (b := w.heap.size + 1 + 1) (x := _) (y := _) (t2A); obtain ⟨kk1, kk2, fkk1, fkk2⟩ := pp)
  go_wp2_with fail
  refine bodyPost_ret (v := .tuple #[.agg #[.int .i64 (tiA a b c d), .int .i64 (tiB a b c d)], .bool (tiO a b c d)]) (by simp [results, Try.results20, go_sem, *]) rfl ?_; exact ⟨rfl, blA⟩
end Go.Proofs.Ytggebkgfldmipaa
