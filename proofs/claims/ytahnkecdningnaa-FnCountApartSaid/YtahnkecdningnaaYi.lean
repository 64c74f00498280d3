import Derived.Test.YtahnkecdningnaaYe
import Derived.Test.YtahnkecdningnaaYd
import Derived.Test.YtahnkecdningnaaOc
namespace Go.Proofs.Ytahnkecdningnaa
open Go Go.RowKit Go.Shelf
attribute [local go_sem] World.cell?_alloc_some cell?_alloc2_some cell?_alloc3_some cell?_alloc4_some frozen?_alloc_some frozen?_alloc2_some frozen?_alloc3_some World.cell?_setCell_far new_ne0 new_ne1 new_ne2 new_ne3 lt2 lt3 lt4 lt5 lt6 lt7 lt8 lt9
attribute [local go_sem] Oper.semAt_some

theorem iOnCircle (n : Int) (w : World) : Calls Try.prog 90 #[.int .i64 n] w fun e w' => ∃ Bn, e = .returned (.func (.func 102) #[] #[.pointer (some ⟨Bn, 0, none⟩)]) ∧ w'.cell? ⟨Bn, 0, none⟩ = some (.int .i64 n) ∧ w.heap.size ≤ Bn ∧ Below w.heap.size w w' := by
  go_enter Try.func90, Try.ntmps90
  go_wp2_with fail
  go_returns
  exact ⟨_, rfl, by (repeat (first | (with_reducible assumption) | (with_reducible apply sameS) | ((with_reducible apply born); (focus (simp; done)); (focus rfl)) | (with_reducible apply keepA) | (with_reducible apply keepD) | ((with_reducible apply keepS); focus ((repeat (first | rw [World.size_alloc] | rw [World.size_setCell] | rw [World.size_drew])); omega)) | ((with_reducible apply keep); (focus (with_reducible assumption))))), by omega, by (repeat' (first | (with_reducible exact Below.refl _ _) | (with_reducible refine Below.alloc ?_ ?_ _) | (with_reducible refine Below.drew ?_) | (with_reducible refine Below.setCell ?_ ?_ _) | (with_reducible refine Below.trans ?_ (Below.mono (by assumption) ?_)) | go_size))⟩

def sqOk (q : Int × Int) : Bool := decide (q.2 ≤ q.1)
/-- The prime whose norm is a prime, in the first quarter, with a first part that is not less. -/
def spF (p : Int) : Option (Int × Int) := if knO p = -1 then none else (circ p).find? sqOk
def spO (p : Int) : Bool := (spF p).isSome
def spA (p : Int) : Int := ((spF p).getD (0, 0)).1
def spB (p : Int) : Int := ((spF p).getD (0, 0)).2
theorem kn_wp {p : Int} (h : knO p ≠ -1) : 2 ≤ p ∧ p ≤ 1000 ∧ wp p := by
  by_cases h1 : 2 ≤ p ∧ p ≤ 1000
  · cases hw : wpB p
    · exact absurd (knO_no (.inr hw)) h
    · exact ⟨h1.1, h1.2, wpB_iff.1 hw⟩
  · exact absurd (knO_no (.inl h1)) h
theorem wp_kn {p : Int} (h1 : p ≤ 1000) (h : wp p) : knO p ≠ -1 := by
  rw [knO_yes h1 (wpB_iff.2 h)]; split
  · omega
  · split <;> omega
theorem sp_is (p : Int) : SplitIs p (spO p) (spA p) (spB p) := by
  unfold spO spA spB
  cases h : spF p with
  | some q =>
    refine ⟨fun h => by simp at h, fun _ => ?_⟩
    rw [spF] at h
    by_cases hk : knO p = -1
    · rw [if_pos hk] at h; cases h
    rw [if_neg hk] at h
    obtain ⟨h1, h2, h3⟩ := kn_wp hk
    have hq := List.find?_some h
    obtain ⟨a, b⟩ := q
    obtain ⟨⟨ha, hb⟩, e⟩ := (mem_circ (by omega) a b).1 (List.mem_of_find?_eq_some h)
    have hba : b ≤ a := by simpa [sqOk] using hq
    refine ⟨h1, h2, h3, fun h4 => no_sq h4 e, ha, hb, hba, ?_, e⟩
    show a ≤ 31
    rcases Int.lt_or_le 31 a with h' | h'
    · have := Int.mul_le_mul (a := 32) (b := 32) (c := a) (d := a) h' h' (by omega) (by omega)
      have := sq_nn b
      omega
    · exact h'
  | none =>
    refine ⟨fun _ => ⟨rfl, rfl, ?_⟩, fun h => by simp at h⟩
    rintro ⟨h1, h2, h3, h4⟩
    rw [spF, if_neg (wp_kn h2 h3)] at h
    obtain ⟨a, b, hb, hba, -, e, -⟩ := two_sq h3 h2 h4
    have ha : 0 < a := by
      rcases Int.lt_or_le 0 a with h' | h'
      · exact h'
      · obtain rfl : a = 0 := by omega
        obtain rfl : b = 0 := by omega
        omega
    have := List.find?_eq_none.1 h (a, b) ((mem_circ (by omega) a b).2 ⟨⟨ha, hb⟩, e⟩)
    exact this (by simp [sqOk, hba])
theorem map_at {L : List (Int × Int)} {k : Nat} {row : Array Value} (h : (L.map gRow)[k]? = some row) : ∃ a b, row = gRow (a, b) ∧ L[k]? = some (a, b) ∧ L.take (k + 1) = L.take k ++ [(a, b)] := by
  rw [List.getElem?_map, Option.map_eq_some_iff] at h
  obtain ⟨⟨a, b⟩, h1, rfl⟩ := h
  refine ⟨a, b, rfl, h1, ?_⟩
  rw [List.take_add_one, h1]; rfl
theorem find_hit {L : List (Int × Int)} {k : Nat} {q : Int × Int} (h : (L.take k).find? sqOk = none) (hq : L[k]? = some q) (ho : sqOk q = true) : L.find? sqOk = some q := by
  obtain ⟨hl, he⟩ := List.getElem?_eq_some_iff.1 hq
  have e : L = L.take k ++ (q :: L.drop (k + 1)) := by
    rw [← he, ← List.drop_eq_getElem_cons hl]; exact (List.take_append_drop k L).symm
  rw [e, List.find?_append, h]
  simp [ho]
/-- Between two rounds of SplitOf's loop: none so far. -/
def Zi (n₀ : World) (L : List (Int × Int)) (i : Nat) (_ : Nat → Prop) (W : World) : Prop := (L.take i).find? sqOk = none ∧ Two W n₀.heap.size 0 0 ∧ W.cell? ⟨n₀.heap.size + 1, 0, none⟩ = some (.bool false) ∧ W.frozen? ⟨n₀.heap.size + 1, 0, none⟩ = false ∧ Below n₀.heap.size n₀ W
def Zx (n₀ : World) (L : List (Int × Int)) (c : Code) (_ : Nat → Prop) (W : World) : Prop := c = .ret ∧ ∃ a b, L.find? sqOk = some (a, b) ∧ Two W n₀.heap.size a b ∧ W.cell? ⟨n₀.heap.size + 1, 0, none⟩ = some (.bool true) ∧ Below n₀.heap.size n₀ W
theorem Keep.two {K : Nat → Prop} {V W : World} (h : Keep K V W) {b : Nat} {x y : Int} (hb : K b) (t : Two V b x y) : Two W b x y := ⟨h.cell hb t.c0, h.cell hb t.c1, h.frozen hb t.c0 t.f0, h.frozen hb t.c1 t.f1⟩

end Go.Proofs.Ytahnkecdningnaa
