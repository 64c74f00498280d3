import Derived.Below
import Derived.RangeFuncKeeps
import Derived.RangeFuncBound
import Derived.RangeFuncCalls
import Derived.RangeFuncLeaves
namespace Go.Proofs.Ytggebkgfldmipaa
open Go Go.RowKit

/-- What lay at or beyond block B lies as it lay. -/
structure After (B : Nat) (V W : World) : Prop where
  size : V.heap.size ≤ W.heap.size
  block : ∀ b, B ≤ b → b < V.heap.size → W.heap[b]? = V.heap[b]?
theorem After.refl (B : Nat) (W : World) : After B W W := ⟨Nat.le_refl _, fun _ _ _ => rfl⟩
theorem After.trans {B : Nat} {U V W : World} (h : After B U V) (k : After B V W) : After B U W :=
  ⟨Nat.le_trans h.size k.size, fun b hb hl => (k.block b hb (Nat.lt_of_lt_of_le hl h.size)).trans (h.block b hb hl)⟩
theorem After.of_below {B : Nat} {V W : World} (h : Below V.heap.size V W) : After B V W := ⟨h.size, fun b _ hl => h.block b hl⟩
theorem After.mono {B C : Nat} {V W : World} (h : After B V W) (hB : B ≤ C) : After C V W := ⟨h.size, fun b hb hl => h.block b (Nat.le_trans hB hb) hl⟩
theorem After.setCell {B : Nat} {V W : World} (h : After B V W) {p : Addr} (hp : p.block < B) (u : Value) : After B V (W.setCell p u) :=
  h.trans ⟨by simp [World.setCell], fun b hb _ => Below.heap_setCell _ _ _ _ (by omega)⟩
theorem After.drew {B : Nat} {V W : World} (h : After B V W) : After B V W.drew := ⟨h.size, h.block⟩
theorem After.alloc {B : Nat} {V W : World} (h : After B V W) (o : Obj) : After B V (W.alloc o) :=
  h.trans ⟨by simp, fun b _ hl => Below.heap_alloc _ _ _ hl⟩
theorem After.putObj (W : World) {B l : Nat} (hl : l < B) (o : Obj) : After B W (W.putObj l o) :=
  ⟨by simp, fun b hb _ => World.putObj_heap_other (by omega)⟩
theorem After.cell {B : Nat} {V W : World} (h : After B V W) {p : Addr} {v : Value} (hb : B ≤ p.block) (hv : V.cell? p = some v) : W.cell? p = some v := by
  have hl : p.block < V.heap.size := World.block_lt_of_cell? _ _ hv
  have e := h.block _ hb hl
  unfold World.cell? at *
  rw [e]; exact hv
theorem below_put {B : Nat} (W : World) {l : Nat} (hl : B ≤ l) (o : Obj) : Below B W (W.putObj l o) :=
  ⟨rfl, rfl, rfl, by simp, fun k hk => World.putObj_heap_other (by omega)⟩

/-- The contract of an iterator that hands over the rows xs, one after the other, to a body that never stops it: whatever is told of blocks that lay ahead of its call is kept by it; the body keeps what lies behind them. -/
def IterGives (P : Program) (g : Nat) (lb : Array Value) (xs : List (Array Value)) (w : World) : Prop :=
  ∀ (l : Nat) (J : Nat → World → Prop) (W : World), Below w.heap.size w W →
    (∀ k A B, J k A → W.heap.size ≤ A.heap.size → Below W.heap.size A B → J k B) →
    (∀ k x W1, xs[k]? = some x → J k W1 → W.heap.size ≤ W1.heap.size → YieldAt Fence.wide 7 P l x W1 fun e W' => e = .returned (.bool true) ∧ J (k + 1) W' ∧ After W.heap.size W1 W') →
    J 0 W →
    CallsIn Fence.wide 8 P g (#[.func (.yield l) #[] #[]] ++ lb) W fun e W' => (∃ v, e = .returned v) ∧ J xs.length W' ∧ W.heap.size ≤ W'.heap.size

/-- The statement 'for .. := range g' over such an iterator: an invariant over the caller's own blocks, round by round; the assignment to the loop's variables may make blocks. -/
theorem wp_rangeOwn {P : Program} {g : Operand} {ps : Array Tmp} {assign body : Code} {Q : Exit → Act → World → Prop} {a : Act} {w w0 : World} {gf : Nat} {lb : Array Value} {xs : List (Array Value)}
    (hg : a.eval g = .func (.func gf) #[] lb) (eg : ∀ args w, (callFunc gf args).run P w = .ok (.enter gf args) w) (hit : IterGives P gf lb xs w0) (hb0 : Below w0.heap.size w0 w) (hps : ∀ x ∈ xs, x.size = ps.size)
    (I : Nat → World → Prop) (hI : ∀ k A B, I k A → w.heap.size ≤ A.heap.size → Below w.heap.size A B → I k B) (h0 : I 0 w)
    (hround : ∀ (l k : Nat) (x : Array Value) (W : World), xs[k]? = some x → I k W → w.heap.size ≤ W.heap.size →
      assign.wpIn (Fence.wide.inRound l) 7 P (Exit.then (fun a1 W1 => After w.heap.size W W1 ∧ ∀ W2 : World, W2.heap.size = W1.heap.size → Below w.heap.size W1 W2 → (∀ b, W.heap.size ≤ b → W2.heap[b]? = W1.heap[b]?) →
        body.wpIn (Fence.wide.inRound l) 7 P (fun e _ W3 => e = .normal ∧ I (k + 1) W3 ∧ After w.heap.size W2 W3) a1 W2) (fun _ _ _ => False))
        { tmps := (ps.zip x).foldl (fun t (p, v) => t.setIfInBounds p v) a.tmps, defers := [] } W)
    (hdone : ∀ (D : Nat) (W : World), w.heap.size ≤ D → I xs.length W → W.heap[D]? = some (.deferred (some [])) → Q .normal { a with defers := { target := .collected D, args := #[] } :: a.defers } W) :
    (Code.rangeFunc g ps assign body).wpIn Fence.wide 9 P Q a w := by
  refine wpIn_rangeFunc ?_
  intro fn hfn
  have hround' : Fence.wide.round = none := rfl
  rw [hround']
  let rc : LoopState → Loop := fun s => { state := s, pending := none, fn := fn, tmps := a.tmps, params := ps, assign := assign, body := body, defers := w.heap.size }
  obtain ⟨V, hV⟩ : ∃ V, (w.alloc (.deferred (some []))).alloc (.loop (rc .ready)) = V := ⟨_, rfl⟩
  have hVs : V.heap.size = w.heap.size + 2 := by rw [← hV]; simp
  have hVl : V.heap[w.heap.size + 1]? = some (.loop (rc .ready)) := by
    rw [← hV]
    have := World.alloc_heap_new (w.alloc (.deferred (some []))) (.loop (rc .ready))
    rwa [World.size_alloc] at this
  have hVd : V.heap[w.heap.size]? = some (.deferred (some [])) := by
    rw [← hV, Below.heap_alloc _ _ _ (by simp)]; exact World.alloc_heap_new w _
  have hVb : Below w.heap.size w V := by
    rw [← hV]; exact ((Below.refl _ w).alloc (Nat.le_refl _) _).alloc (by simp) _
  refine ⟨w.heap.size + 1, [{ target := .collected w.heap.size, args := #[] }], V, { target := .fn (.func gf) lb, args := #[.func (.yield (w.heap.size + 1)) #[] #[]] }, V, gf, #[.func (.yield (w.heap.size + 1)) #[] #[]] ++ lb, V, ?_, ?_, fun _ _ => trivial, ?_, fun h => by simp [Fence.wide] at h, ?_⟩
  · rw [← hV]; exact run_enterLoop_outer _ _ _ _ _
  · simp only [resolve, hg]
    simp [go_sem]
  · simp [invoke, go_sem, eg]
  · have put : ∀ k (W : World) (o : Obj), I k W → w.heap.size ≤ W.heap.size → I k (W.putObj (w.heap.size + 1) o) := fun k W o hi hs => hI k W _ hi hs (below_put W (by omega) o)
    refine (hit (w.heap.size + 1) (fun k W => I k W ∧ W.heap[w.heap.size + 1]? = some (.loop (rc .ready)) ∧ W.heap[w.heap.size]? = some (.deferred (some []))) V (hb0.trans (hVb.mono hb0.size)) ?_ ?_ ⟨hI 0 w V h0 (Nat.le_refl _) hVb, hVl, hVd⟩).mono ?_
    · rintro k A B ⟨hi, hl, hd⟩ hs hAB
      exact ⟨hI k A B hi (by omega) (hAB.mono (by omega)), (hAB.block _ (by omega)).trans hl, (hAB.block _ (by omega)).trans hd⟩
    · rintro k x W hx ⟨hi, hl, hd⟩ hs
      have hm : x ∈ xs := List.mem_of_getElem? hx
      have hy := run_yield (P := P) (args := x) hl (hps x hm)
      refine ⟨fn, _, assign, body, hy, roundIn_of_wpIn trivial (wpIn_mono (hround _ k x W hx hi (by omega)) ?_)⟩
      rintro e a1 W1 h1
      cases e with
      | normal =>
        obtain ⟨af, hb⟩ := h1
        have hs1 := af.size
        have hl1 : W1.heap[w.heap.size + 1]? = some (.loop (rc .ready)) := (af.block _ (by omega) (by omega)).trans hl
        have hd1 : W1.heap[w.heap.size]? = some (.deferred (some [])) := (af.block _ (by omega) (by omega)).trans hd
        refine ⟨_, run_beginRound hl1 rfl, wpIn_mono (hb _ (by simp) (below_put W1 (by omega) _) (fun b hb' => World.putObj_heap_other (by omega))) ?_⟩
        rintro e a3 W3 ⟨rfl, hi3, haf⟩
        have hl3 : W3.heap[w.heap.size + 1]? = some (.loop { rc .ready with state := .busy }) := (haf.block _ (by omega) (by simp; omega)).trans (World.putObj_heap_same (by omega))
        have hd3 : W3.heap[w.heap.size]? = some (.deferred (some [])) := (haf.block _ (Nat.le_refl _) (by simp; omega)).trans ((World.putObj_heap_other (by omega)).trans hd1)
        have hs3 := haf.size
        simp only [World.putObj_size] at hs3
        refine ⟨_, _, run_endRound none hl3, rfl, ⟨put _ _ _ hi3 (by omega), World.putObj_heap_same (by omega), (World.putObj_heap_other (by omega)).trans hd3⟩, ?_⟩
        exact (((af.mono (by omega)).trans (After.putObj W1 (by omega) _)).trans (haf.mono (by omega))).trans (After.putObj W3 (by omega) _)
      | _ => exact h1.elim
    · rintro e W2 ⟨⟨v, rfl⟩, ⟨hi, hl, hd⟩, hs⟩
      exact ⟨none, _, run_endLoop (P := P) hl (by simp [rc]), hdone _ _ (Nat.le_refl _) (put _ _ _ hi (by omega)) ((World.putObj_heap_other (by omega)).trans hd)⟩
#print axioms wp_rangeOwn
end Go.Proofs.Ytggebkgfldmipaa
