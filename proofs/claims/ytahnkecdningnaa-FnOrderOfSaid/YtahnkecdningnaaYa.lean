import Derived.Test.YtahnkecdningnaaBase
import Derived.Below
import Derived.RangeFuncKeeps
import Derived.RangeFuncBound
import Derived.RangeFuncCalls
import Derived.RangeFuncLeaves
namespace Go.Proofs.Ytahnkecdningnaa
open Go Go.RowKit

/-- From V to W the blocks of K lie as they lay; nothing is said of others. -/
structure Keep (K : Nat → Prop) (V W : World) : Prop where
  os : W.os = V.os
  tape : W.tape = V.tape
  output : W.output = V.output
  size : V.heap.size ≤ W.heap.size
  block : ∀ b, K b → b < V.heap.size → W.heap[b]? = V.heap[b]?
section
variable {K L : Nat → Prop} {U V W : World}
theorem Keep.refl (K : Nat → Prop) (W : World) : Keep K W W := ⟨rfl, rfl, rfl, Nat.le_refl _, fun _ _ _ => rfl⟩
theorem Keep.trans (h : Keep K U V) (k : Keep K V W) : Keep K U W :=
  ⟨k.os.trans h.os, k.tape.trans h.tape, k.output.trans h.output, Nat.le_trans h.size k.size, fun b hb hl => (k.block b hb (Nat.lt_of_lt_of_le hl h.size)).trans (h.block b hb hl)⟩
theorem Keep.mono (h : Keep K V W) (hL : ∀ b, L b → b < V.heap.size → K b) : Keep L V W := ⟨h.os, h.tape, h.output, h.size, fun b hb hl => h.block b (hL b hb hl) hl⟩
theorem Keep.of_below (K : Nat → Prop) (h : Below V.heap.size V W) : Keep K V W := ⟨h.os, h.tape, h.output, h.size, fun b _ hl => h.block b hl⟩
theorem Keep.below {B : Nat} (h : Keep K V W) (hK : ∀ b, b < B → K b) (hB : B ≤ V.heap.size) : Below B V W := ⟨h.os, h.tape, h.output, h.size, fun b hb => h.block b (hK b hb) (by omega)⟩
theorem Keep.setCell (h : Keep K V W) {p : Addr} (hp : ¬ K p.block) (u : Value) : Keep K V (W.setCell p u) :=
  h.trans ⟨rfl, rfl, rfl, by simp [World.setCell], fun b hb _ => Below.heap_setCell _ _ _ _ (by rintro rfl; exact hp hb)⟩
theorem Keep.drew (h : Keep K V W) : Keep K V W.drew := ⟨h.os, h.tape, h.output, h.size, h.block⟩
theorem Keep.alloc (h : Keep K V W) (o : Obj) : Keep K V (W.alloc o) :=
  h.trans ⟨rfl, rfl, rfl, by simp, fun b _ hl => Below.heap_alloc _ _ _ hl⟩
theorem Keep.putObj (W : World) {l : Nat} (hl : ¬ K l) (o : Obj) : Keep K W (W.putObj l o) :=
  ⟨rfl, rfl, rfl, by simp, fun b hb _ => World.putObj_heap_other (by rintro rfl; exact hl hb)⟩
theorem Keep.grown {row : Option Nat} (h : V.grownBy W row) (hr : ∀ b, K b → some b ≠ row) : Keep K V W := ⟨h.os, h.tape, h.output, h.size, fun b hb hl => h.block b hl (hr b hb)⟩
theorem Keep.cell (h : Keep K V W) {p : Addr} {v : Value} (hb : K p.block) (hv : V.cell? p = some v) : W.cell? p = some v := by
  have e := h.block _ hb (World.block_lt_of_cell? _ _ hv)
  unfold World.cell? at *
  rw [e]; exact hv
theorem Keep.frozen (h : Keep K V W) {p : Addr} {v : Value} (hb : K p.block) (hv : V.cell? p = some v) (hf : V.frozen? p = false) : W.frozen? p = false :=
  (World.frozen?_of_block (h.block _ hb (World.block_lt_of_cell? _ _ hv))).trans hf
theorem Keep.t2 (h : Keep K V W) {b : Nat} {x y : Value} (hb : K b) (t : T2 V b x y) : T2 W b x y := ⟨h.cell hb t.c0, h.cell hb t.c1, h.frozen hb t.c0 t.f0, h.frozen hb t.c1 t.f1⟩
theorem Keep.heap (h : Keep K V W) {b : Nat} {o : Obj} (hb : K b) (hv : V.heap[b]? = some o) : W.heap[b]? = some o :=
  (h.block b hb (Array.getElem?_eq_some_iff.1 hv).1).trans hv
end
/-- What a loop's body leaves: the next state, or the stop. -/
def After2 (J J' : Prop) : Bool → Prop
  | true => J
  | false => J'

/-- The contract of an iterator that hands over the rows xs, one after the other, until the body stops it. S: the body's own blocks among those made since the iterator was called: the iterator leaves them, and all that lay when it was called, as they lay. The body leaves what lies of C (the blocks that the iterator reads), and what was made since but is not its own. -/
def IterG (P : Program) (g : Nat) (lb : Array Value) (xs : List (Array Value)) (C : Nat → Prop) (w : World) : Prop :=
  ∀ (l : Nat) (J Jx : Nat → (Nat → Prop) → World → Prop) (W : World), Keep C w W →
    (∀ k S A B, J k S A → Keep (fun b => b < W.heap.size ∨ S b) A B → J k S B) →
    (∀ k S A B, Jx k S A → Keep (fun b => b < W.heap.size ∨ S b) A B → Jx k S B) →
    (∀ k S x W1, xs[k]? = some x → J k S W1 → W.heap.size ≤ W1.heap.size → (∀ b, S b → W.heap.size ≤ b ∧ b < W1.heap.size) →
      YieldAt Fence.wide 7 P l x W1 fun e W' => ∃ c S', e = .returned (.bool c) ∧ After2 (J (k + 1) S' W') (Jx k S' W') c ∧ (∀ b, S' b → (S b ∨ W1.heap.size ≤ b) ∧ b < W'.heap.size) ∧ Keep (fun b => ¬ S b ∧ (C b ∨ W.heap.size ≤ b)) W1 W') →
    J 0 (fun _ => False) W →
    CallsIn Fence.wide 8 P g (#[.func (.yield l) #[] #[]] ++ lb) W fun e W' => (∃ v, e = .returned v) ∧ W.heap.size ≤ W'.heap.size ∧ ((∃ S, J xs.length S W') ∨ ∃ k S, Jx k S W')

theorem round_any {P : Program} {l l' m : Nat} {f : FuncId} {tmps : Array Value} {assign body : Code} {w : World} {R : Ending → World → Prop} (h : RoundIn Fence.wide 7 P l f tmps assign body w R) : RoundIn (Fence.wide.inRound l') m P l f tmps assign body w R :=
  ⟨trivial, fun c cs _ => h.2 c cs (room_wide _)⟩

/-- What a round leaves: on, or by which jump. -/
def RoundEnd (J : World → Prop) (Jx : Code → World → Prop) : Exit → World → Prop
  | .normal, W => J W
  | .ret, W => Jx .ret W
  | .exit id, W => Jx (.exit id) W
  | _, _ => False

/-- The statement 'for .. := range g' over such an iterator, at an outermost loop: an invariant with the blocks that the loop's body owns; the body may go on, break, or return. -/
theorem wp_rangeG {P : Program} {g : Operand} {ps : Array Tmp} {assign body : Code} {Q : Exit → Act → World → Prop} {a : Act} {w w0 : World} {gf : Nat} {lb : Array Value} {xs : List (Array Value)} {C : Nat → Prop}
    (hg : a.eval g = .func (.func gf) #[] lb) (eg : ∀ args w, (callFunc gf args).run P w = .ok (.enter gf args) w) (hit : IterG P gf lb xs C w0) (hC : ∀ b, C b → b < w.heap.size) (hb0 : Keep C w0 w) (hps : ∀ x ∈ xs, x.size = ps.size)
    (I : Nat → (Nat → Prop) → World → Prop) (Ix : Code → (Nat → Prop) → World → Prop)
    (hI : ∀ k S A B, I k S A → Keep (fun b => b < w.heap.size ∨ S b) A B → I k S B) (hIx : ∀ c S A B, Ix c S A → Keep (fun b => b < w.heap.size ∨ S b) A B → Ix c S B) (h0 : I 0 (fun _ => False) w)
    (hround : ∀ (l k : Nat) (S : Nat → Prop) (x : Array Value) (W : World), xs[k]? = some x → I k S W → w.heap.size + 2 ≤ W.heap.size → (∀ b, S b → w.heap.size + 2 ≤ b ∧ b < W.heap.size) →
      assign.wpIn (Fence.wide.inRound l) 7 P (Exit.then (fun a1 W1 => Keep (fun b => ¬ S b) W W1 ∧ ∀ W2 : World, W2.heap.size = W1.heap.size → Keep (fun b => b < w.heap.size ∨ w.heap.size + 2 ≤ b) W1 W2 →
        body.wpIn (Fence.wide.inRound l) 7 P (fun e _ W3 => ∃ S' : Nat → Prop, (∀ b, S' b → (S b ∨ W.heap.size ≤ b) ∧ b < W3.heap.size) ∧ Keep (fun b => ¬ S b ∧ (C b ∨ w.heap.size ≤ b) ∧ b < W.heap.size) W2 W3 ∧ RoundEnd (I (k + 1) S') (fun c => Ix c S') e W3) a1 W2) (fun _ _ _ => False))
        { tmps := (ps.zip x).foldl (fun t (p, v) => t.setIfInBounds p v) a.tmps, defers := [] } W)
    (hdone : ∀ (D : Nat) (S : Nat → Prop) (W : World), w.heap.size ≤ D → I xs.length S W → (∀ b, S b → D < b) → W.heap[D]? = some (.deferred (some [])) → Q .normal { a with defers := { target := .collected D, args := #[] } :: a.defers } W)
    (hstop : ∀ (D : Nat) (c : Code) (S : Nat → Prop) (W : World), w.heap.size ≤ D → Ix c S W → (∀ b, S b → D < b) → W.heap[D]? = some (.deferred (some [])) → c.wpIn Fence.wide 9 P Q { a with defers := { target := .collected D, args := #[] } :: a.defers } W) :
    (Code.rangeFunc g ps assign body).wpIn Fence.wide 9 P Q a w := by
  refine wpIn_rangeFunc ?_
  intro fn hfn
  have hround' : Fence.wide.round = none := rfl
  rw [hround']
  obtain ⟨rc, hrc⟩ : ∃ rc : LoopState → Option Code → Loop, rc = fun s pe => { state := s, pending := pe, fn := fn, tmps := a.tmps, params := ps, assign := assign, body := body, defers := w.heap.size } := ⟨_, rfl⟩
  obtain ⟨V, hV⟩ : ∃ V, (w.alloc (.deferred (some []))).alloc (.loop (rc .ready none)) = V := ⟨_, rfl⟩
  have hVs : V.heap.size = w.heap.size + 2 := by rw [← hV]; simp
  have hVl : V.heap[w.heap.size + 1]? = some (.loop (rc .ready none)) := by
    rw [← hV]
    have := World.alloc_heap_new (w.alloc (.deferred (some []))) (.loop (rc .ready none))
    rwa [World.size_alloc] at this
  have hVd : V.heap[w.heap.size]? = some (.deferred (some [])) := by
    rw [← hV, Below.heap_alloc _ _ _ (by simp)]; exact World.alloc_heap_new w _
  have hVb : Below w.heap.size w V := by
    rw [← hV]; exact ((Below.refl _ w).alloc (Nat.le_refl _) _).alloc (by simp) _
  refine ⟨w.heap.size + 1, [{ target := .collected w.heap.size, args := #[] }], V, { target := .fn (.func gf) lb, args := #[.func (.yield (w.heap.size + 1)) #[] #[]] }, V, gf, #[.func (.yield (w.heap.size + 1)) #[] #[]] ++ lb, V, ?_, ?_, fun _ _ => trivial, ?_, fun h => by simp [Fence.wide] at h, ?_⟩
  · rw [← hV, hrc]; exact run_enterLoop_outer _ _ _ _ _
  · simp only [resolve, hg]
    simp [go_sem]
  · simp [invoke, go_sem, eg]
  · have put : ∀ (k : Nat) S (W : World) (o : Obj), I k S W → (∀ b, S b → w.heap.size + 2 ≤ b) → I k S (W.putObj (w.heap.size + 1) o) := fun k S W o hi hS => hI k S W _ hi (Keep.putObj W (by
      rintro (h | h)
      · omega
      · have := hS _ h; omega) o)
    have putx : ∀ (c : Code) S (W : World) (o : Obj), Ix c S W → (∀ b, S b → w.heap.size + 2 ≤ b) → Ix c S (W.putObj (w.heap.size + 1) o) := fun k S W o hi hS => hIx k S W _ hi (Keep.putObj W (by
      rintro (h | h)
      · omega
      · have := hS _ h; omega) o)
    refine (hit (w.heap.size + 1) (fun k S W => I k S W ∧ (∀ b, S b → w.heap.size + 2 ≤ b) ∧ W.heap[w.heap.size + 1]? = some (.loop (rc .ready none)) ∧ W.heap[w.heap.size]? = some (.deferred (some [])))
      (fun _ S W => (∀ b, S b → w.heap.size + 2 ≤ b) ∧ ∃ c, Ix c S W ∧ W.heap[w.heap.size + 1]? = some (.loop (rc .done (some c))) ∧ W.heap[w.heap.size]? = some (.deferred (some [])))
      V (hb0.trans (Keep.of_below _ hVb)) ?_ ?_ ?_ ⟨hI 0 _ w V h0 (Keep.of_below _ hVb), fun b hb => hb.elim, hVl, hVd⟩).mono ?_
    · rintro k S A B ⟨hi, hS, hl, hd⟩ hAB
      exact ⟨hI k S A B hi (hAB.mono (fun b hb _ => hb.imp_left (by omega))), hS, hAB.heap (.inl (by omega)) hl, hAB.heap (.inl (by omega)) hd⟩
    · rintro k S A B ⟨hS, c, hi, hl, hd⟩ hAB
      exact ⟨hS, c, hIx c S A B hi (hAB.mono (fun b hb _ => hb.imp_left (by omega))), hAB.heap (.inl (by omega)) hl, hAB.heap (.inl (by omega)) hd⟩
    · rintro k S x W hx ⟨hi, hS, hl, hd⟩ hs hSW
      have hm : x ∈ xs := List.mem_of_getElem? hx
      have hnl : ¬ S (w.heap.size + 1) := fun h => by have := hS _ h; omega
      have hnd : ¬ S w.heap.size := fun h => by have := hS _ h; omega
      have hy := run_yield (P := P) (args := x) hl (by rw [hrc]; exact hps x hm)
      rw [hrc] at hy
      refine ⟨fn, _, assign, body, hy, roundIn_of_wpIn trivial (wpIn_mono (hround _ k S x W hx hi (by omega) (fun b hb => ⟨hS b hb, (hSW b hb).2⟩)) ?_)⟩
      rintro e a1 W1 h1
      cases e with
      | normal =>
        obtain ⟨af, hb⟩ := h1
        have hs1 := af.size
        have hl1 := af.heap hnl hl
        have hd1 := af.heap hnd hd
        have hl2 : (W1.putObj (w.heap.size + 1) (.loop { rc .ready none with state := .busy })).heap[w.heap.size + 1]? = some (.loop { rc .ready none with state := .busy }) := World.putObj_heap_same (by omega)
        have hd2 : (W1.putObj (w.heap.size + 1) (.loop { rc .ready none with state := .busy })).heap[w.heap.size]? = some (.deferred (some [])) := (World.putObj_heap_other (by omega)).trans hd1
        refine ⟨_, run_beginRound hl1 (by rw [hrc]), wpIn_mono (hb _ (by simp) (Keep.putObj W1 (by omega) _)) ?_⟩
        rintro e a3 W3 ⟨S', hS', hk3, hp⟩
        have hl3 := hk3.heap ⟨hnl, .inr (by omega), by omega⟩ hl2
        have hd3 := hk3.heap ⟨hnd, .inr (by omega), by omega⟩ hd2
        have hs3 := hk3.size
        simp only [World.putObj_size] at hs3
        have hSS : ∀ b, S' b → w.heap.size + 2 ≤ b := fun b hb => by
          rcases (hS' b hb).1 with h | h
          · exact hS b h
          · omega
        have hS'' : ∀ o : Obj, ∀ b, S' b → (S b ∨ W.heap.size ≤ b) ∧ b < (W3.putObj (w.heap.size + 1) o).heap.size := fun o b hb => by
          rw [World.putObj_size]; exact hS' b hb
        have fin : ∀ jump : Option Code, (Instr.endRound (w.heap.size + 1) jump).run P W3 = .ok (.bool jump.isNone) (W3.putObj (w.heap.size + 1) (.loop (rc (if jump.isNone then .ready else .done) jump))) := fun jump => by
          have := run_endRound (P := P) jump hl3
          rw [hrc] at this ⊢
          exact this
        have hkp : ∀ o : Obj, Keep (fun b => ¬ S b ∧ (C b ∨ V.heap.size ≤ b)) W (W3.putObj (w.heap.size + 1) o) := fun o => by
          refine ⟨hk3.os.trans af.os, hk3.tape.trans af.tape, hk3.output.trans af.output, by simp; omega, ?_⟩
          rintro b ⟨hb, hc⟩ hlt
          have hne : b ≠ w.heap.size + 1 := by
            rcases hc with h | h
            · have := hC b h; omega
            · omega
          rw [World.putObj_heap_other (by omega), hk3.block b ⟨hb, hc.imp_right (by omega), hlt⟩ (by simp; omega), World.putObj_heap_other (by omega), af.block b hb hlt]
        cases e with
        | normal => exact ⟨_, _, fin none, true, S', rfl, ⟨put _ _ _ _ hp hSS, hSS, World.putObj_heap_same (by omega), (World.putObj_heap_other (by omega)).trans hd3⟩, hS'' _, hkp _⟩
        | ret => exact ⟨_, _, fin (some .ret), false, S', rfl, ⟨hSS, _, putx _ _ _ _ hp hSS, World.putObj_heap_same (by omega), (World.putObj_heap_other (by omega)).trans hd3⟩, hS'' _, hkp _⟩
        | exit id => exact ⟨_, _, fin (some (.exit id)), false, S', rfl, ⟨hSS, _, putx _ _ _ _ hp hSS, World.putObj_heap_same (by omega), (World.putObj_heap_other (by omega)).trans hd3⟩, hS'' _, hkp _⟩
        | goto t => exact hp.elim
        | panic ch => exact hp.elim
        | outgrown => exact hp.elim
      | _ => exact h1.elim
    · rintro e W2 ⟨⟨v, rfl⟩, hs, (⟨S, hi, hS, hl, hd⟩ | ⟨k, S, hS, c, hi, hl, hd⟩)⟩
      · exact ⟨none, _, by have := run_endLoop (P := P) hl (by rw [hrc]; simp); rw [hrc] at this; exact this, hdone _ S _ (Nat.le_refl _) (put _ _ _ _ hi hS) (fun b hb => by have := hS b hb; omega) ((World.putObj_heap_other (by omega)).trans hd)⟩
      · exact ⟨some c, _, by have := run_endLoop (P := P) hl (by rw [hrc]; simp); rw [hrc] at this; exact this, hstop _ c S _ (Nat.le_refl _) (putx _ _ _ _ hi hS) (fun b hb => by have := hS b hb; omega) ((World.putObj_heap_other (by omega)).trans hd)⟩
/-- A return behind a range over a function. -/
theorem mark_back {P : Program} {fn : Func} {tmps : Array Value} {W : World} {R : Ending → World → Prop} {D : Nat} (v : Value) (hK : W.heap[D]? = some (.deferred (some [])))
    (hr : ∀ W' : World, (∀ b, b ≠ D → W'.heap[b]? = W.heap[b]?) → (results fn tmps).run P W' = .ok v W') (hR : ∀ W' : World, Keep (fun b => b ≠ D) W W' → Below D W W' → R (.returned v) W') :
    bodyPostM Fence.wide 9 P fn R .ret { tmps := tmps, defers := [{ target := .collected D, args := #[] }] } W :=
  ⟨by simp, .inl ⟨_, _, rfl, run_takeDeferred hK, v, hr _ (fun b hb => World.putObj_heap_other hb), hR _ (Keep.putObj W (by simp) _) ⟨rfl, rfl, rfl, by simp, fun k hk => World.putObj_heap_other (by omega)⟩⟩⟩
theorem heap_cells {W : World} {D : Nat} {o : Obj} {p : Addr} {v : Value} (h : W.heap[D]? = some o) (hD : D ≠ p.block) : (W.setCell p v).heap[D]? = some o := (Below.heap_setCell _ _ _ _ hD).trans h
#print axioms wp_rangeG
end Go.Proofs.Ytahnkecdningnaa
