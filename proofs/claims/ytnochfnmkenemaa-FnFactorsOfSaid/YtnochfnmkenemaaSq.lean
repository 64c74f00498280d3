import Derived.Test.YtnochfnmkenemaaSn
import Derived.Lib.SliceRun
import Derived.Test.YtnochfnmkenemaaL
namespace Go.Proofs.Ytnochfnmkenemaa
open Go Go.RowKit
attribute [local go_sem] World.cell?_alloc_some cell?_alloc2_some cell?_alloc3_some cell?_alloc4_some frozen?_alloc_some frozen?_alloc2_some frozen?_alloc3_some World.cell?_setCell_far new_ne0 new_ne1 new_ne2 new_ne3 lt2 lt3 lt4 lt5 lt6 lt7 lt8 lt9
attribute [local go_sem ↓] eqG neG

/-- No number stands beside itself. -/
def NoAdj (l : List (Int × Int)) : Prop := ∀ (k : Nat) (q : Int × Int), l[k]? = some q → l[k + 1]? = some q → False
theorem sl_fromC (g len cap n : Nat) (h : n < len) (hc : len ≤ cap) (W : World) : (Instr.slice 26 (.slice (some ⟨g, 0, none⟩) len cap) (some (.int .i64 (n : Int))) none none).run Try.prog W = .ok (.slice (some ⟨g, n * 2, none⟩) (len - n) (cap - n)) W := by
  obtain ⟨hel, hun, hsz⟩ := slice_facts
  rw [run_slice_l (P := Try.prog) W 26 _ _ _ hun .i64 n (by omega) (by omega), hel, hsz]
  simp only [Result.andThen, sliced, Int.toNat_natCast]
  rw [if_neg (by omega)]
  simp only [Option.map_some, Addr.add]
  split
  · rename_i h0; simp [h0]
  · simp
theorem sl_uptoC (g len cap n : Nat) (h : n ≤ cap) (W : World) : (Instr.slice 26 (.slice (some ⟨g, 0, none⟩) len cap) none (some (.int .i64 (n : Int))) none).run Try.prog W = .ok (.slice (some ⟨g, 0, none⟩) n cap) W := by
  obtain ⟨hel, hun, hsz⟩ := slice_facts
  rw [run_slice_h (P := Try.prog) W 26 _ _ _ hun .i64 n (by omega) (by omega), hel, hsz]
  simp only [Result.andThen, sliced, Int.toNat_natCast]
  simp [Addr.add]
theorem zero_cells (n : Nat) : (Builtin.zeroCells #[.int .i64 0, .int .i64 0] n).toList = List.replicate (n * 2) (.int .i64 0) := by
  refine List.ext_getElem (by simp [Builtin.zeroCells]) (fun j h1 h2 => ?_)
  rw [List.getElem_replicate]
  have hj : j % 2 = 0 ∨ j % 2 = 1 := by omega
  simp only [Builtin.zeroCells, Array.toList_map, List.getElem_map, Array.toList_range, List.getElem_range]
  rcases hj with h | h <;> simp [h]
theorem run_clear2 (w : World) (ty : TypeId) (b o n c : Nat) (hn : 0 < n) (hc : ∀ j, j < n * 2 → (w.cell? ⟨b, o + j, none⟩).isSome = true) (hf : ∀ j, j < n * 2 → w.frozen? ⟨b, o + j, none⟩ = false) :
    (Builtin.clear_ #[26] ty #[.slice (some ⟨b, o, none⟩) n c]).run Try.prog w = .ok (.tuple #[]) (w.setCells b o (List.replicate (n * 2) (.int .i64 0))) := by
  obtain ⟨i, hi, hz0, hz1, -⟩ := info_parts gauss_info
  have hv : ∀ w, (zeroValue 24).run Try.prog w = .ok (.agg #[.int .i64 0, .int .i64 0]) w := fun w => by simp [zeroValue, typeInfo, hi, hz0]
  have hst := run_storeCells_cells (P := Try.prog) b o (List.replicate (n * 2) (.int .i64 0)) 0 w (by simpa using hc) (by simpa using hf) (by intro v hv'; rw [List.eq_of_mem_replicate hv']; rfl)
  simp only [Nat.add_zero] at hst
  obtain ⟨m, rfl⟩ : ∃ m, n = m + 1 := ⟨n - 1, by omega⟩
  have hzc := zero_cells (m + 1)
  simp [Builtin.clear_, run_underlying Try.underlying26, hv, Value.cells, hzc, hst]
theorem keep_setCells (g : Nat) : ∀ (vs : List Value) (o : Nat) (w : World), Keep (fun b => b ≠ g) w (w.setCells g o vs) := by
  intro vs
  induction vs with
  | nil => intro o w; exact Keep.refl _ _
  | cons v vs ih =>
    intro o w
    exact ((Keep.refl (fun b => b ≠ g) w).setCell (p := ⟨g, o, none⟩) (fun h => h rfl) v).trans (ih (o + 1) _)
theorem gs_at {W : World} {base g n cap : Nat} {l : List (Int × Int)} (h : GS W base (.slice (some ⟨g, 0, none⟩) n cap) l) (hl : l ≠ []) : At W g l ∧ ∀ i, W.frozen? ⟨g, i, none⟩ = false := by
  obtain ⟨g', cap', e, -, -, hA, hf⟩ := h.at hl
  injection e with e1 e2 e3
  injection e1 with e1
  injection e1 with e1
  subst e1
  exact ⟨hA, hf⟩
/-- What the shrinking keeps: a list in the same place, as long. -/
def Cp (w : World) (base g cap n : Nat) (l' : List (Int × Int)) (wr : World) : Prop := l'.length = n ∧ GS wr base (.slice (some ⟨g, 0, none⟩) n cap) l' ∧ Keep (fun b => b ≠ g) w wr
set_option maxRecDepth 100000 in
set_option maxHeartbeats 16000000 in
theorem iCompact (l : List (Int × Int)) (v : Value) (base : Nat) (w : World) (hg : GS w base v l) (hl : l.length ≤ 1000) :
    Calls Try.prog 69 #[v] w fun e w' => ∃ a n c, e = .returned (.slice a n c) ∧ (n = l.length ↔ NoAdj l) ∧ n ≤ l.length ∧ Keep (fun b => v.ownBlock ≠ some b) w w' := by
  by_cases h2 : l.length < 2
  · have hna : NoAdj l := fun k q h h' => by
      have := (List.getElem?_eq_some_iff.1 h').1; omega
    obtain ⟨a, cap, rfl, -⟩ := hg.form
    have hd : decide ((l.length : Int) < 2) = true := decide_eq_true (by omega)
    have hd' : l.length < 2 := h2
    go_enter Try.func69, Try.ntmps69
    go_wp2_with fail
    go_returns
    exact ⟨a, l.length, cap, rfl, ⟨fun _ => hna, fun _ => rfl⟩, Nat.le_refl _, Keep.refl _ _⟩
  have hne : l ≠ [] := by rintro rfl; simp at h2
  obtain ⟨g, cap, rfl, hbg, hgl, hA, hfz⟩ := hg.at hne
  have hcap : l.length ≤ cap := by
    rcases id hg.2 with ⟨h, -⟩ | ⟨g', cap', cur, e, -, -, h, -⟩
    · cases h
    · injection e with e1 e2 e3; omega
  obtain ⟨n, hn⟩ : ∃ n, l.length = n := ⟨_, rfl⟩
  rw [hn] at hg h2 hl hcap ⊢
  have hd : decide ((n : Int) < 2) = false := decide_eq_false (by omega)
  have hdn : ¬ (n < 2) := h2
  go_enter Try.func69, Try.ntmps69
  go_wp2_with fail
  go_loopw [3] (fun u wr => ∃ k : Nat, u = .int .i64 (k : Int) ∧ 1 ≤ k ∧ k ≤ n ∧ (∀ (j : Nat) (q : Int × Int), j + 1 < k → l[j]? = some q → l[j + 1]? = some q → False) ∧ Below w.heap.size w wr) (fun u _ => n - (intOf u).toNat)
  case atStart => exact ⟨1, rfl, by omega, by omega, fun j q h => by omega, Below.refl _ _⟩
  case round =>
    clear hd hdn
    obtain ⟨k, rfl, hk1, hkn, hno, hb⟩ := hrel
    by_cases hlt : k < n
    · have hd : decide ((k : Int) < (n : Int)) = true := decide_eq_true (by omega)
      obtain ⟨i, hi⟩ : ∃ i, k = i + 1 := ⟨k - 1, by omega⟩
      have hki : (k : Int) - 1 = (i : Int) := by omega
      obtain ⟨⟨x, y⟩, hxy⟩ : ∃ q, l[i]? = some q := ⟨_, List.getElem?_eq_getElem (by omega)⟩
      obtain ⟨⟨z, t⟩, hzt⟩ : ∃ q, l[k]? = some q := ⟨_, List.getElem?_eq_getElem (by omega)⟩
      obtain ⟨c0, c1⟩ := hA i x y hxy
      obtain ⟨c2, c3⟩ := hA k z t hzt
      have d0 := keep hb c0
      have d1 := keep hb c1
      have d2 := keep hb c2
      have d3 := keep hb c3
      have hin : i < n := by omega
      have hiu : (i : Int) ≤ n := by omega
      have HI := Lib.hid hi
      clear c0 c1 c2 c3 hA
      cases he : (z == x && t == y)
      · have hno' : ∀ (j : Nat) (q : Int × Int), j + 1 < k + 1 → l[j]? = some q → l[j + 1]? = some q → False := fun j q h h1 h2 => by
          by_cases hj : j = i
          · subst hj
            rw [hxy] at h1
            rw [← hi, hzt] at h2
            cases h1
            injection h2 with h2
            injection h2 with e1 e2
            subst e1 e2
            simp at he
          · exact hno j q (by omega) h1 h2
        clear hno hxy hzt hi
        go_wp2_with fail
        go_region
        all_goals go_wp2_with fail
        all_goals go_roundw
        all_goals first | exact ⟨k + 1, by simp, by omega, by omega, hno', by (repeat' (first | (with_reducible exact Below.refl _ _) | (with_reducible refine Below.alloc ?_ ?_ _) | (with_reducible refine Below.drew ?_) | (with_reducible refine Below.setCell ?_ ?_ _) | (with_reducible refine Below.trans ?_ (Below.mono (by assumption) ?_)) | go_size))⟩ | (simp [intOf]; omega)
      · have hadj : ¬ NoAdj l := fun h => by
          simp at he
          obtain ⟨rfl, rfl⟩ := he
          exact h i (z, t) hxy (by rw [← hi]; exact hzt)
        have hb1 : ∀ W, Below w.heap.size w W → Cp w base g cap n l W := fun W hW => ⟨hn, hg.below hW, (Keep.of_below (fun _ => True) hW).mono (fun _ _ _ => trivial)⟩
        obtain ⟨s, hs⟩ : ∃ s, n - k = s := ⟨_, rfl⟩
        have hs1 : 1 ≤ s := by omega
        have hks : k + s = n := by omega
        have sF := sl_fromC g n cap k hlt hcap
        rw [hs] at sF
        clear hs
        clear hno hxy hzt hg hfz hi
        go_wp2_with fail
        go_region
        all_goals
          go_wp2_with fail
          have hq0 := hb1 wr.drew (by (repeat' (first | (with_reducible exact Below.refl _ _) | (with_reducible refine Below.alloc ?_ ?_ _) | (with_reducible refine Below.drew ?_) | (with_reducible refine Below.setCell ?_ ?_ _) | (with_reducible refine Below.trans ?_ (Below.mono (by assumption) ?_)) | go_size)))
          clear hb1 d0 d1 d2 d3 he hb hd sF hki hin hiu
          go_loopw [3, 5] (fun u z wr => ∃ (k' k2 : Nat) (l' : List (Int × Int)), u = .int .i64 (k' : Int) ∧ z = .int .i64 (k2 : Int) ∧ 1 ≤ k2 ∧ k2 ≤ s ∧ k' + 1 ≤ k + k2 ∧ Cp w base g cap n l' wr) (fun _ z _ => s - (intOf z).toNat)
          case atStart => exact ⟨k, 1, l, rfl, rfl, by omega, by omega, by omega, hq0⟩
          case round =>
            clear hq0
            obtain ⟨k', k2, l', rfl, rfl, h1, h2s, hkk, hn', hg', hkp⟩ := hrel
            have hne' : l' ≠ [] := by rintro rfl; simp at hn'; omega
            obtain ⟨hA', hfz'⟩ := gs_at hg' hne'
            obtain ⟨⟨e, f⟩, hef⟩ : ∃ q, l'[k']? = some q := ⟨_, List.getElem?_eq_getElem (by omega)⟩
            obtain ⟨s0, s1⟩ := hA' k' e f hef
            have f0 := hfz' (k' * 2)
            have f1 := hfz' (k' * 2 + 1)
            have hk'n : k' < n := by omega
            by_cases hlt2 : k2 < s
            · have hd2 : decide ((k2 : Int) < (s : Int)) = true := decide_eq_true (by omega)
              obtain ⟨m, hm⟩ : ∃ m, k2 = m + 1 := ⟨k2 - 1, by omega⟩
              have hkm : (k2 : Int) - 1 = (m : Int) := by omega
              have hms : m < s := by omega
              obtain ⟨⟨p, q⟩, hpq⟩ : ∃ q, l'[k + k2]? = some q := ⟨_, List.getElem?_eq_getElem (by omega)⟩
              obtain ⟨⟨p2, q2⟩, hpq2⟩ : ∃ q, l'[k + m]? = some q := ⟨_, List.getElem?_eq_getElem (by omega)⟩
              obtain ⟨a0, a1⟩ := hA' _ p q hpq
              obtain ⟨a2, a3⟩ := hA' _ p2 q2 hpq2
              rw [show (k + k2) * 2 = k * 2 + k2 * 2 by omega] at a0 a1
              rw [show (k + m) * 2 = k * 2 + m * 2 by omega] at a2 a3
              have hput := GS.put (W := wr) (base := base) (g := g) (cap := cap) (l := l') (by rw [hn']; exact hg') k' (by omega) p q
              rw [hn'] at hput
              have hset : (l'.set k' (p, q)).length = n := by rw [List.length_set]; exact hn'
              clear hA' hfz' hef hpq hpq2 hm
              cases hE : (p == p2 && q == q2)
              · go_wp2_with fail
                go_region
                all_goals go_wp2_with fail
                all_goals go_roundw
                all_goals first
                  | exact ⟨k' + 1, k2 + 1, l'.set k' (p, q), by simp, by simp, by omega, by omega, by omega, hset, hput, ((hkp.drew).setCell (fun h => h rfl) _).setCell (fun h => h rfl) _⟩
                  | (simp [intOf]; omega)
              · go_wp2_with fail
                go_region
                all_goals go_wp2_with fail
                all_goals go_roundw
                all_goals first
                  | exact ⟨k', k2 + 1, l', by simp, by simp, by omega, by omega, by omega, hn', hg', hkp.drew⟩
                  | (simp [intOf]; omega)
            · have hd2 : decide ((k2 : Int) < (s : Int)) = false := decide_eq_false (by omega)
              have sF' := sl_fromC g n cap k' hk'n hcap
              have sU := sl_uptoC g n cap k' (by omega)
              have hcl : ∀ ty, (Builtin.clear_ #[26] ty #[.slice (some ⟨g, k' * 2, none⟩) (n - k') (cap - k')]).run Try.prog wr = .ok (.tuple #[]) (wr.setCells g (k' * 2) (List.replicate ((n - k') * 2) (.int .i64 0))) := fun ty =>
                run_clear2 wr ty g (k' * 2) (n - k') (cap - k') (by omega) (fun j hj => by
                  obtain ⟨⟨u, v⟩, huv⟩ : ∃ q, l'[k' + j / 2]? = some q := ⟨_, List.getElem?_eq_getElem (by omega)⟩
                  obtain ⟨b0, b1⟩ := hA' _ u v huv
                  rcases Nat.mod_two_eq_zero_or_one j with h | h
                  · rw [show k' * 2 + j = (k' + j / 2) * 2 by omega, b0]; rfl
                  · rw [show k' * 2 + j = (k' + j / 2) * 2 + 1 by omega, b1]; rfl) (fun j _ => hfz' _)
              have hfin : Keep (fun b => (Value.slice (some ⟨g, 0, none⟩) n cap).ownBlock ≠ some b) w (wr.setCells g (k' * 2) (List.replicate ((n - k') * 2) (.int .i64 0))) := (hkp.trans (keep_setCells g _ _ _)).mono (fun b hb _ => by simp [Value.ownBlock] at hb; omega)
              clear hA' hfz' hef s0 s1 f0 f1 hg' hkp
              go_wp2_with fail
              go_returns
              exact ⟨some ⟨g, 0, none⟩, k', cap, rfl, ⟨fun h => by omega, fun h => absurd h hadj⟩, by omega, hfin⟩
    · have hd : decide ((k : Int) < (n : Int)) = false := decide_eq_false (by omega)
      have hna : NoAdj l := fun j q h h' => hno j q (by have := (List.getElem?_eq_some_iff.1 h').1; omega) h h'
      go_wp2_with fail
      go_returns
      exact ⟨some ⟨g, 0, none⟩, n, cap, rfl, ⟨fun _ => hna, fun _ => rfl⟩, Nat.le_refl _, (Keep.of_below (fun _ => True) hb).mono (fun _ _ _ => trivial)⟩
end Go.Proofs.Ytnochfnmkenemaa

namespace Go.Proofs.Ytnochfnmkenemaa
open Go Go.RowKit
attribute [local go_sem] World.cell?_alloc_some cell?_alloc2_some cell?_alloc3_some cell?_alloc4_some frozen?_alloc_some frozen?_alloc2_some frozen?_alloc3_some World.cell?_setCell_far new_ne0 new_ne1 new_ne2 new_ne3 lt2 lt3 lt4 lt5 lt6 lt7 lt8 lt9
attribute [local go_sem ↓] eqG neG

/-- Is a number without squares. -/
def SqIs (a b : Int) (o : Bool) : Prop := ∃ o' t l, FacIs a b o' t l ∧ (o = true ↔ o' = true ∧ NoAdj l)
theorem sq_is (a b : Int) : ∃ o, SqIs a b o := by
  obtain ⟨o', t, l, h⟩ := fac_is a b
  by_cases hp : o' = true ∧ NoAdj l
  · exact ⟨true, o', t, l, h, by simp [hp]⟩
  · exact ⟨false, o', t, l, h, by simp [hp]⟩
theorem SqIs.of {a b t : Int} {o o' : Bool} {l : List (Int × Int)} (h : SqIs a b o) (h' : FacIs a b o' t l) : o = true ↔ o' = true ∧ NoAdj l := by
  obtain ⟨o1, t1, l1, h1, h2⟩ := h
  obtain ⟨rfl, rfl, rfl⟩ := h1.one h'
  exact h2
set_option maxHeartbeats 4000000 in
theorem iSquareFreeOk_v {a b : Int} {o : Bool} (w : World) (h : SqIs a b o) : Calls Try.prog 29 #[.agg #[.int .i64 a, .int .i64 b]] w fun e w' => e = .returned (.bool o) ∧ Below w.heap.size w w' := by
  obtain ⟨o', t, l, hF⟩ := fac_is a b
  have ho := h.of hF
  have hl := hF.len
  cases o' with
  | false =>
    have : o = false := by
      cases o
      · rfl
      · exact absurd (ho.1 rfl).1 (by simp)
    subst this
    clear ho
    go_enter Try.func29, Try.ntmps29
    go_wp2_with fail
    (refine (iFactorsOf_v _ hF).mono ?_; rintro e w1 ⟨v, rfl, hg, hb1⟩; have hz1 := hb1.size; (repeat (first | rw [World.size_alloc] at hz1 | rw [World.size_setCell] at hz1 | rw [World.size_drew] at hz1)))
    go_wp2_with fail
    go_returns
    exact ⟨rfl, by (repeat' (first | (with_reducible exact Below.refl _ _) | (with_reducible refine Below.alloc ?_ ?_ _) | (with_reducible refine Below.drew ?_) | (with_reducible refine Below.setCell ?_ ?_ _) | (with_reducible refine Below.trans ?_ (Below.mono (by assumption) ?_)) | go_size))⟩
  | true =>
    have ho2 : o = true ↔ NoAdj l := ho.trans ⟨fun h => h.2, fun h => ⟨rfl, h⟩⟩
    clear ho
    go_enter Try.func29, Try.ntmps29
    go_wp2_with fail
    (refine (iFactorsOf_v _ hF).mono ?_; rintro e w1 ⟨v, rfl, hg, hb1⟩; have hz1 := hb1.size; (repeat (first | rw [World.size_alloc] at hz1 | rw [World.size_setCell] at hz1 | rw [World.size_drew] at hz1)))
    clear hF h
    obtain ⟨av, cv, rfl, -⟩ := hg.form
    go_wp2_with fail
    refine (iCompact l _ _ _ hg (by omega)).mono ?_
    rintro e w2 ⟨a2, n, c2, rfl, hn, hnl, hk⟩
    have hb2 : Below w.heap.size w w2 := by
      have hB : Below w.heap.size w w1 := by (repeat' (first | (with_reducible exact Below.refl _ _) | (with_reducible refine Below.alloc ?_ ?_ _) | (with_reducible refine Below.drew ?_) | (with_reducible refine Below.setCell ?_ ?_ _) | (with_reducible refine Below.trans ?_ (Below.mono (by assumption) ?_)) | go_size))
      have hs := hB.size
      have hgl := hg.lt
      exact hB.trans (hk.below (fun b hb e => by have := (hgl b e).1; simp at this; omega) hs)
    have he : ((n : Int) == (l.length : Int)) = o := by
      cases o
      · rw [beq_eq_false_iff_ne]
        intro h
        exact absurd (ho2.2 (hn.1 (by omega))) (by simp)
      · rw [beq_iff_eq]
        have := hn.2 (ho2.1 rfl)
        omega
    clear hk hg hn ho2
    obtain ⟨m, hm⟩ : ∃ m, l.length = m := ⟨_, rfl⟩
    rw [hm] at he hnl ⊢
    cases o
    all_goals
      go_wp2_with fail
      go_returns
      first
        | exact ⟨rfl, hb2⟩
        | exact ⟨by simp [he], hb2⟩
set_option maxHeartbeats 4000000 in
theorem sSquareFreeOk_v {a b : Int} {o : Bool} (w : World) (h : SqIs a b o) : Calls Try.prog 30 #[.agg #[.int .i64 a, .int .i64 b]] w fun e w' => e = .returned (.bool o) ∧ Below w.heap.size w w' := by
  obtain ⟨o', t, l, hF⟩ := fac_is a b
  have ho := h.of hF
  have hl := hF.len
  have hnil : o' = false → l = [] := fun h => (hF.2.1 h).2
  go_enter Try.func30, Try.ntmps30
  go_wp2_with fail
  (refine (sFactorsOf_v _ hF).mono ?_; rintro e w1 ⟨v, rfl, hg, hb1⟩; have hz1 := hb1.size; (repeat (first | rw [World.size_alloc] at hz1 | rw [World.size_setCell] at hz1 | rw [World.size_drew] at hz1)))
  clear hF h
  obtain ⟨av, cv, rfl, ha⟩ := hg.form
  obtain ⟨n, hn⟩ : ∃ n, l.length = n := ⟨_, rfl⟩
  have hbw : Below w.heap.size w w1 := by (repeat' (first | (with_reducible exact Below.refl _ _) | (with_reducible refine Below.alloc ?_ ?_ _) | (with_reducible refine Below.drew ?_) | (with_reducible refine Below.setCell ?_ ?_ _) | (with_reducible refine Below.trans ?_ (Below.mono (by assumption) ?_)) | go_size))
  clear hg
  rw [hn] at hl ⊢
  go_wp2_with fail
  go_loopw [6] (fun u wr => ∃ k : Nat, u = .int .i64 (k : Int) ∧ 1 ≤ k ∧ (k ≤ n ∨ k = 1) ∧ (∀ (j : Nat) (q : Int × Int), j + 1 < k → l[j]? = some q → l[j + 1]? = some q → False) ∧ Below w1.heap.size w1 wr) (fun u _ => n - (intOf u).toNat)
  case atStart => exact ⟨1, rfl, by omega, .inr rfl, fun j q h => by omega, Below.refl _ _⟩
  case round =>
    obtain ⟨k, rfl, hk1, hkn, hno, hb⟩ := hrel
    by_cases hlt : k < n
    · have hd : decide ((k : Int) < (n : Int)) = true := decide_eq_true (by omega)
      obtain ⟨i, hi⟩ : ∃ i, k = i + 1 := ⟨k - 1, by omega⟩
      have hki : (k : Int) - 1 = (i : Int) := by omega
      have hne : l ≠ [] := by rintro rfl; simp at hn; omega
      obtain ⟨g, rfl, -, hgl, hA, -⟩ := ha hne
      have ho1 : o' = true := by
        cases o'
        · exact absurd (hnil rfl) hne
        · rfl
      obtain ⟨⟨x, y⟩, hxy⟩ : ∃ q, l[i]? = some q := ⟨_, List.getElem?_eq_getElem (by omega)⟩
      obtain ⟨⟨z, t⟩, hzt⟩ : ∃ q, l[k]? = some q := ⟨_, List.getElem?_eq_getElem (by omega)⟩
      obtain ⟨c0, c1⟩ := hA i x y hxy
      obtain ⟨c2, c3⟩ := hA k z t hzt
      have d0 := keep hb c0
      have d1 := keep hb c1
      have d2 := keep hb c2
      have d3 := keep hb c3
      have hin : i < n := by omega
      have HI := Lib.hid hi
      clear c0 c1 c2 c3 hA ha
      cases he : (z == x && t == y)
      · have hno' : ∀ (j : Nat) (q : Int × Int), j + 1 < k + 1 → l[j]? = some q → l[j + 1]? = some q → False := fun j q h h1 h2 => by
          by_cases hj : j = i
          · subst hj
            rw [hxy] at h1
            rw [← hi, hzt] at h2
            cases h1
            injection h2 with h2
            injection h2 with e1 e2
            subst e1 e2
            simp at he
          · exact hno j q (by omega) h1 h2
        clear hno hxy hzt hi ho1 ho hnil
        go_wp2_with fail
        go_region
        all_goals go_wp2_with fail
        all_goals go_roundw
        all_goals first | exact ⟨k + 1, by simp, by omega, by omega, hno', by (repeat' (first | (with_reducible exact Below.refl _ _) | (with_reducible refine Below.alloc ?_ ?_ _) | (with_reducible refine Below.drew ?_) | (with_reducible refine Below.setCell ?_ ?_ _) | (with_reducible refine Below.trans ?_ (Below.mono (by assumption) ?_)) | go_size))⟩ | (simp [intOf]; omega)
      · have : o = false := by
          simp at he
          obtain ⟨rfl, rfl⟩ := he
          cases o
          · rfl
          · exact ((ho.1 rfl).2 i (z, t) hxy (by rw [← hi]; exact hzt)).elim
        subst this
        clear hno hxy hzt hi ho1 ho hnil
        go_wp2_with fail
        go_region
        all_goals
          go_wp2_with fail
          go_returns
          exact ⟨rfl, hbw.trans ((hb.mono (by have := hbw.size; omega)).drew)⟩
    · have hd : decide ((k : Int) < (n : Int)) = false := decide_eq_false (by omega)
      have hna : NoAdj l := fun j q h h' => by
        have := (List.getElem?_eq_some_iff.1 h').1
        exact hno j q (by omega) h h'
      have : o = o' := by
        cases o'
        · cases o
          · rfl
          · exact absurd (ho.1 rfl).1 (by simp)
        · exact ho.2 ⟨rfl, hna⟩
      subst this
      go_wp2_with fail
      go_returns
      exact ⟨rfl, hbw.trans (hb.mono (by have := hbw.size; omega))⟩
set_option maxHeartbeats 4000000 in
theorem walkFnExactSquareFreeOk (a b : Int) (w : World) (_w0 : (Lit.int .i64 a).wf = true) (_w1 : (Lit.int .i64 b).wf = true) :
    Calls Try.prog 10 #[.agg #[.int .i64 a, .int .i64 b]] w fun e w' => e = .returned (.bool true) ∧ Below w.heap.size w w' := by
  clear _w0 _w1
  obtain ⟨o, hq⟩ := sq_is a b
  go_enter Try.func10, Try.ntmps10
  go_wp2_with fail
  (refine (toGauss a b _).mono ?_; rintro e w1 ⟨rfl, hb1⟩; have hz1 := hb1.size; (repeat (first | rw [World.size_alloc] at hz1 | rw [World.size_setCell] at hz1 | rw [World.size_drew] at hz1)); have pp := C2.K hb1 (b := w.heap.size) (x := _) (y := _) (by (repeat (first | ((with_reducible apply C2.mk) <;> (with_reducible assumption)) | (with_reducible apply C2.Z) | (with_reducible apply C2.O) | ((with_reducible apply C2.B); (focus (simp; done))) | (with_reducible apply C2.A) | (with_reducible apply C2.D) | ((with_reducible apply C2.S); focus ((repeat (first | rw [World.size_alloc] | rw [World.size_setCell] | rw [World.size_drew])); omega)) | ((with_reducible apply C2.K); (focus (with_reducible assumption)))))); obtain ⟨kk1, kk2⟩ := pp)
  go_wp2_with fail
  (refine (sSquareFreeOk_v _ hq).mono ?_; rintro e w2 ⟨rfl, hb2⟩; have hz2 := hb2.size; (repeat (first | rw [World.size_alloc] at hz2 | rw [World.size_setCell] at hz2 | rw [World.size_drew] at hz2)); have pp := C2.K hb2 (b := w.heap.size) (x := _) (y := _) (by (repeat (first | ((with_reducible apply C2.mk) <;> (with_reducible assumption)) | (with_reducible apply C2.Z) | (with_reducible apply C2.O) | ((with_reducible apply C2.B); (focus (simp; done))) | (with_reducible apply C2.A) | (with_reducible apply C2.D) | ((with_reducible apply C2.S); focus ((repeat (first | rw [World.size_alloc] | rw [World.size_setCell] | rw [World.size_drew])); omega)) | ((with_reducible apply C2.K); (focus (with_reducible assumption)))))); obtain ⟨kk3, kk4⟩ := pp; (try clear kk1 kk2))
  go_wp2_with fail
  (refine (toGauss a b _).mono ?_; rintro e w3 ⟨rfl, hb3⟩; have hz3 := hb3.size; (repeat (first | rw [World.size_alloc] at hz3 | rw [World.size_setCell] at hz3 | rw [World.size_drew] at hz3)); have pp := C2.K hb3 (b := w.heap.size) (x := _) (y := _) (by (repeat (first | ((with_reducible apply C2.mk) <;> (with_reducible assumption)) | (with_reducible apply C2.Z) | (with_reducible apply C2.O) | ((with_reducible apply C2.B); (focus (simp; done))) | (with_reducible apply C2.A) | (with_reducible apply C2.D) | ((with_reducible apply C2.S); focus ((repeat (first | rw [World.size_alloc] | rw [World.size_setCell] | rw [World.size_drew])); omega)) | ((with_reducible apply C2.K); (focus (with_reducible assumption)))))); obtain ⟨kk5, kk6⟩ := pp; (try clear kk3 kk4))
  go_wp2_with fail
  (refine (iSquareFreeOk_v _ hq).mono ?_; rintro e w4 ⟨rfl, hb4⟩; have hz4 := hb4.size; (repeat (first | rw [World.size_alloc] at hz4 | rw [World.size_setCell] at hz4 | rw [World.size_drew] at hz4)); (try clear kk5 kk6))
  clear hq
  cases o
  all_goals
    go_wp2_with fail
    go_returns
    exact ⟨rfl, by (repeat' (first | (with_reducible exact Below.refl _ _) | (with_reducible refine Below.alloc ?_ ?_ _) | (with_reducible refine Below.drew ?_) | (with_reducible refine Below.setCell ?_ ?_ _) | (with_reducible refine Below.trans ?_ (Below.mono (by assumption) ?_)) | go_size))⟩
end Go.Proofs.Ytnochfnmkenemaa
