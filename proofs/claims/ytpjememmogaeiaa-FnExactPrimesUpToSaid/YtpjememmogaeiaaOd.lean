import Derived.Test.YtpjememmogaeiaaOc
namespace Go.Proofs.Ytpjememmogaeiaa
open Go Go.RowKit Go.Shelf
attribute [local go_sem] World.cell?_alloc_some cell?_alloc2_some cell?_alloc3_some cell?_alloc4_some frozen?_alloc_some frozen?_alloc2_some frozen?_alloc3_some World.cell?_setCell_far new_ne0 new_ne1 new_ne2 new_ne3 lt2 lt3 lt4 lt5 lt6 lt7 lt8 lt9
attribute [local go_sem ↓] eqG neG
attribute [local go_sem] Oper.semAt_some

theorem sl_next {xs : List (Array Value)} {i k : Nat} {x y u v : Int} {row : Array Value} (h : xs.drop i = sl k x y u v) (hr : xs[i]? = some row) :
    ∃ j p q r s, qA x y u v = p ∧ qB x y u v = q ∧ rA x y u v = r ∧ rB x y u v = s ∧ row = #[.agg #[.int .i64 u, .int .i64 v], .agg #[.int .i64 p, .int .i64 q]] ∧ xs.drop (i + 1) = sl j u v r s ∧ ¬ (u = 0 ∧ v = 0) ∧ k = j + 1 ∧ gc k x y u v = gc j u v r s ∧
      ∀ A A' B B' C C' D D', fc k x y u v A A' B B' C C' D D' = fc j u v r s C C' D D' (A - (p * C - q * C')) (A' - (p * C' + q * C)) (B - (p * D - q * D')) (B' - (p * D' + q * D)) := by
  have hne : xs.drop i = row :: xs.drop (i + 1) := by
    obtain ⟨hl, he⟩ := List.getElem?_eq_some_iff.1 hr
    rw [List.drop_eq_getElem_cons hl, he]
  cases k with
  | zero => rw [h] at hne; simp [sl] at hne
  | succ j =>
    by_cases hz : u = 0 ∧ v = 0
    · rw [h] at hne; simp [sl, hz] at hne
    · rw [h, sl, if_neg hz] at hne
      injection hne with h1 h2
      exact ⟨j, _, _, _, _, rfl, rfl, rfl, rfl, h1.symm, h2.symm, hz, rfl, by rw [gc, if_neg hz], fun A A' B B' C C' D D' => by rw [fc, if_neg hz]⟩
theorem sl_end {xs : List (Array Value)} {k : Nat} {x y u v : Int} (h : xs.drop xs.length = sl k x y u v) : gc k x y u v = (x, y) ∧ ∀ A A' B B' C C' D D', fc k x y u v A A' B B' C C' D D' = (A, A', B, B') := by
  have hne : sl k x y u v = [] := by rw [← h]; simp
  cases k with
  | zero => exact ⟨rfl, fun _ _ _ _ _ _ _ _ => rfl⟩
  | succ j =>
    by_cases hz : u = 0 ∧ v = 0
    · exact ⟨by rw [gc, if_pos hz], fun _ _ _ _ _ _ _ _ => by rw [fc, if_pos hz]⟩
    · rw [sl, if_neg hz] at hne; simp at hne

theorem putC {W : World} {a : Addr} {v : Value} {D : Nat} {o o' : Obj} (hK : W.heap[D]? = some o) (ho : o.isCells = false) (h : W.cell? a = some v) : (W.putObj D o').cell? a = some v :=
  cell_kept h (grownBy_putObj' _ D _) (fun r e => by cases e; exact ⟨_, hK, ho⟩)
theorem sameTwo {V W : World} {b : Nat} {x y : Int} (e : W.heap[b]? = V.heap[b]?) (t : Two V b x y) : Two W b x y :=
  ⟨(World.cell?_of_block (a := ⟨b, 0, none⟩) e).trans t.c0, (World.cell?_of_block (a := ⟨b, 1, none⟩) e).trans t.c1, (World.frozen?_of_block (a := ⟨b, 0, none⟩) e).trans t.f0, (World.frozen?_of_block (a := ⟨b, 1, none⟩) e).trans t.f1⟩
/-- Between two rounds: what was divided by last. -/
def Il (xs : List (Array Value)) (g : Int × Int) (n₀ : World) (L R : Nat) (i : Nat) (W : World) : Prop := ∃ (k : Nat) (x y u v p q : Int), Two W L x y ∧ Two W R p q ∧ xs.drop i = sl k x y u v ∧ gc k x y u v = g ∧ Below n₀.heap.size n₀ W

end Go.Proofs.Ytpjememmogaeiaa
