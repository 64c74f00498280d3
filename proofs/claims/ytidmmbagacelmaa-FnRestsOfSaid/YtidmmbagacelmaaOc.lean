import Derived.Test.YtidmmbagacelmaaOa
import Derived.Test.YtidmmbagacelmaaOb
import Derived.Test.YtidmmbagacelmaaJp
import Derived.RangeFuncNested
import Derived.Shelf.RegionOpen
import Derived.OwnWalkIn
import Derived.TacticsInMore
namespace Go.Proofs.Ytidmmbagacelmaa
open Go Go.RowKit Go.Shelf
attribute [local go_sem] World.cell?_alloc_some cell?_alloc2_some cell?_alloc3_some cell?_alloc4_some frozen?_alloc_some frozen?_alloc2_some frozen?_alloc3_some World.cell?_setCell_far new_ne0 new_ne1 new_ne2 new_ne3 lt2 lt3 lt4 lt5 lt6 lt7 lt8 lt9
attribute [local go_sem ↓] eqG neG
attribute [local go_sem] Oper.semAt_some

/-- What dividing hands over, step by step: what is divided by, and the quotient. -/
def sl : Nat → Int → Int → Int → Int → List (Array Value)
  | 0, _, _, _, _ => []
  | k + 1, a, b, c, d => if c = 0 ∧ d = 0 then [] else #[.agg #[.int .i64 c, .int .i64 d], .agg #[.int .i64 (qA a b c d), .int .i64 (qB a b c d)]] :: sl k c d (rA a b c d) (rB a b c d)
theorem sl_len (k : Nat) : ∀ a b c d : Int, (sl k a b c d).length = st k a b c d := by
  induction k with
  | zero => intro a b c d; rfl
  | succ k ih =>
    intro a b c d
    by_cases hz : c = 0 ∧ d = 0
    · simp [sl, st, hz]
    · simp [sl, st, hz, ih]
theorem sl_two (k : Nat) : ∀ a b c d : Int, ∀ x ∈ sl k a b c d, x.size = 2 := by
  induction k with
  | zero => intro a b c d x hx; simp [sl] at hx
  | succ k ih =>
    intro a b c d x hx
    by_cases hz : c = 0 ∧ d = 0
    · simp [sl, hz] at hx
    · simp only [sl, if_neg hz, List.mem_cons] at hx
      rcases hx with rfl | hx
      · rfl
      · exact ih _ _ _ _ x hx
theorem step_sl {k j : Nat} {x y u v r s p q : Int} (hz : (u == 0 && v == 0) = false) (hk : k = j + 1) (e1 : qA x y u v = p) (e2 : qB x y u v = q) (e3 : rA x y u v = r) (e4 : rB x y u v = s) :
    sl k x y u v = #[.agg #[.int .i64 u, .int .i64 v], .agg #[.int .i64 p, .int .i64 q]] :: sl j u v r s := by
  have hnz : ¬ (u = 0 ∧ v = 0) := by rintro ⟨rfl, rfl⟩; simp at hz
  subst hk e1 e2 e3 e4
  rw [sl, if_neg hnz]
theorem end_sl (k : Nat) (x y : Int) : sl k x y 0 0 = [] := by cases k <;> simp [sl]

theorem After.two {B : Nat} {V W : World} (h : After B V W) {b : Nat} {x y : Int} (hb : B ≤ b) (t : Two V b x y) : Two W b x y := by
  have hl : b < V.heap.size := World.block_lt_of_cell? _ _ t.c0
  have e := h.block _ hb hl
  exact ⟨h.cell hb t.c0, h.cell hb t.c1, (World.frozen?_of_block (a := ⟨b, 0, none⟩) e).trans t.f0, (World.frozen?_of_block (a := ⟨b, 1, none⟩) e).trans t.f1⟩
theorem Below.two {B : Nat} {V W : World} (h : Below B V W) {b : Nat} {x y : Int} (hb : b < B) (t : Two V b x y) : Two W b x y :=
  ⟨(h.cell (p := ⟨b, 0, none⟩) hb).trans t.c0, (h.cell (p := ⟨b, 1, none⟩) hb).trans t.c1, (h.frozen (p := ⟨b, 0, none⟩) hb).trans t.f0, (h.frozen (p := ⟨b, 1, none⟩) hb).trans t.f1⟩
/-- The two numbers that the iterator keeps. -/
def CutD (W : World) (a b c d : Int) (v u : Value) (wx : World) : Prop := ∃ X Y, v = .pointer (some ⟨X, 0, none⟩) ∧ u = .pointer (some ⟨Y, 0, none⟩) ∧ X ≠ Y ∧ W.heap.size ≤ X ∧ W.heap.size ≤ Y ∧ Two wx X a b ∧ Two wx Y c d ∧ Below W.heap.size W wx
/-- What holds between two rounds of the iterator. -/
def It (W : World) (J : Nat → World → Prop) (xs : List (Array Value)) (X Y : Nat) (wr : World) : Prop := ∃ (i k : Nat) (x y u v : Int), Two wr X x y ∧ Two wr Y u v ∧ gok x y = true ∧ gok u v = true ∧ u * u + v * v < 2 ^ k ∧ i ≤ xs.length ∧ xs.drop i = sl k x y u v ∧ J i wr ∧ W.heap.size ≤ wr.heap.size
theorem drop_head {xs ys : List (Array Value)} {i : Nat} {x : Array Value} (h : xs.drop i = x :: ys) : xs[i]? = some x ∧ xs.drop (i + 1) = ys := by
  constructor
  · have := congrArg (fun l => l[0]?) h
    simpa using this
  · rw [← List.drop_drop, h]; rfl
theorem drop_nil {xs : List (Array Value)} {i : Nat} (hi : i ≤ xs.length) (h : xs.drop i = []) : i = xs.length := by
  have := List.drop_eq_nil_iff.1 h; omega

theorem igDivided_v {a b c d q1 q2 r1 r2 : Int} (w : World) (h : dvO a b c d = true) (e : qA a b c d = q1 ∧ qB a b c d = q2 ∧ rA a b c d = r1 ∧ rB a b c d = r2) : Calls Try.prog 73 #[.agg #[.int .i64 a, .int .i64 b], .agg #[.int .i64 c, .int .i64 d]] w fun e w' => e = .returned (.tuple #[.agg #[.int .i64 q1, .int .i64 q2], .agg #[.int .i64 r1, .int .i64 r2]]) ∧ Below w.heap.size w w' := by
  obtain ⟨rfl, rfl, rfl, rfl⟩ := e; exact igDivided a b c d w h

end Go.Proofs.Ytidmmbagacelmaa

namespace Go.Proofs.Ytidmmbagacelmaa
open Go Go.RowKit Go.Shelf
attribute [local go_sem] World.cell?_alloc_some cell?_alloc2_some cell?_alloc3_some cell?_alloc4_some frozen?_alloc_some frozen?_alloc2_some frozen?_alloc3_some World.cell?_setCell_far new_ne0 new_ne1 new_ne2 new_ne3 lt2 lt3 lt4 lt5 lt6 lt7 lt8 lt9
attribute [local go_sem ↓] eqG neG
attribute [local go_sem] Oper.semAt_some

theorem sl_next {xs : List (Array Value)} {i k : Nat} {x y u v : Int} {row : Array Value} (h : xs.drop i = sl k x y u v) (hr : xs[i]? = some row) :
    ∃ j p q r s, qA x y u v = p ∧ qB x y u v = q ∧ rA x y u v = r ∧ rB x y u v = s ∧ row = #[.agg #[.int .i64 u, .int .i64 v], .agg #[.int .i64 p, .int .i64 q]] ∧ xs.drop (i + 1) = sl j u v r s ∧ ¬ (u = 0 ∧ v = 0) ∧ k = j + 1 ∧ gc k x y u v = gc j u v r s ∧
      ∀ A A' B B' C C' D D', fc k x y u v A A' B B' C C' D D' = fc j u v r s C C' D D' (A - (p * C - q * C')) (A' - (p * C' + q * C)) (B - (p * D - q * D')) (B' - (p * D' + q * D)) := by
  have hne : xs.drop i = row :: xs.drop (i + 1) := by
    obtain ⟨hl, he⟩ := List.getElem?_eq_some_iff.1 hr
    rw [List.drop_eq_getElem_cons hl, he]
  cases k with
  | zero => rw [h] at hne; simp [sl] at hne
  | succ j =>
    by_cases hz : u = 0 ∧ v = 0
    · rw [h] at hne; simp [sl, hz] at hne
    · rw [h, sl, if_neg hz] at hne
      injection hne with h1 h2
      exact ⟨j, _, _, _, _, rfl, rfl, rfl, rfl, h1.symm, h2.symm, hz, rfl, by rw [gc, if_neg hz], fun A A' B B' C C' D D' => by rw [fc, if_neg hz]⟩
theorem sl_end {xs : List (Array Value)} {k : Nat} {x y u v : Int} (h : xs.drop xs.length = sl k x y u v) : gc k x y u v = (x, y) ∧ ∀ A A' B B' C C' D D', fc k x y u v A A' B B' C C' D D' = (A, A', B, B') := by
  have hne : sl k x y u v = [] := by rw [← h]; simp
  cases k with
  | zero => exact ⟨rfl, fun _ _ _ _ _ _ _ _ => rfl⟩
  | succ j =>
    by_cases hz : u = 0 ∧ v = 0
    · exact ⟨by rw [gc, if_pos hz], fun _ _ _ _ _ _ _ _ => by rw [fc, if_pos hz]⟩
    · rw [sl, if_neg hz] at hne; simp at hne

theorem putC {W : World} {a : Addr} {v : Value} {D : Nat} {o o' : Obj} (hK : W.heap[D]? = some o) (ho : o.isCells = false) (h : W.cell? a = some v) : (W.putObj D o').cell? a = some v :=
  cell_kept h (grownBy_putObj' _ D _) (fun r e => by cases e; exact ⟨_, hK, ho⟩)
theorem sameTwo {V W : World} {b : Nat} {x y : Int} (e : W.heap[b]? = V.heap[b]?) (t : Two V b x y) : Two W b x y :=
  ⟨(World.cell?_of_block (a := ⟨b, 0, none⟩) e).trans t.c0, (World.cell?_of_block (a := ⟨b, 1, none⟩) e).trans t.c1, (World.frozen?_of_block (a := ⟨b, 0, none⟩) e).trans t.f0, (World.frozen?_of_block (a := ⟨b, 1, none⟩) e).trans t.f1⟩
/-- Between two rounds: what was divided by last. -/
def Il (xs : List (Array Value)) (g : Int × Int) (n₀ : World) (L R : Nat) (i : Nat) (W : World) : Prop := ∃ (k : Nat) (x y u v p q : Int), Two W L x y ∧ Two W R p q ∧ xs.drop i = sl k x y u v ∧ gc k x y u v = g ∧ Below n₀.heap.size n₀ W

end Go.Proofs.Ytidmmbagacelmaa
