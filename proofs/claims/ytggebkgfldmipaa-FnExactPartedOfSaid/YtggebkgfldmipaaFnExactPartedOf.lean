/- The law FnExactPartedOf holds at every input: the call returns true, and each argument reads behind it as it read before. No condition. -/
import Derived.Test.YtggebkgfldmipaaRows
import Derived.Test.YtggebkgfldmipaaNn
import Derived.Lib.SmallJoins
namespace Go.Proofs.Ytggebkgfldmipaa.fnExactPartedOf
open Go Go.ChangeShapes Go.WideShapes Go.ChangeAt Go.RowKit Go.Joins
open Go.ChangeMaps (open_string shut_string)
set_option linter.unusedVariables false

theorem own : ownKnob Try.prog.godebug = none := by kernel_rfl
theorem laidOut : laidOutB Try.prog = true := by kernel_rfl

set_option maxRecDepth 100000 in
theorem lifted (os : Os) (started : os.Started) (H : Type) (enc : TypeId × Value → H) :
    ReturnsInHanded {} Try.checked os 9 .any (Rows.fnExactPartedOfSpec.pre6 enc Try.prog Try.f9 Rows.fnExactPartedOfRow.domain false) (Rows.fnExactPartedOfSpec.post enc Try.prog Try.f9 false true false false) := by
  refine returnsInHanded_of_change (C := Try.checked) own started (by kernel_rfl) Try.func9
    (ChangeSpec.witness6 (enc := enc) (C := Try.checked) false ⟨#[], #[.agg #[.int .i64 0, .int .i64 0], .agg #[.int .i64 0, .int .i64 0], .agg #[.int .i64 0, .int .i64 0]], []⟩ 8 (by kernel_rfl) (by kernel_rfl) (by kernel_rfl) (by kernel_rfl)) ?_
  intro W base args ds gs before hval0 hW hcnd _
  have hval : ∀ (j : Nat) t v, Try.f9.params[j]? = some t → args[j]? = some v → Value.okWide Try.prog W .any base t v := hval0
  have hW' := hW
  obtain ⟨p, q, hA0, hV, rfl, hfz, hnd⟩ := hW
  have hA : DataW.TrodAll enc Try.prog W 0 (fun _ => true) true Try.f9.params.toList args.toList ds p := hA0
  rw [Try.params9] at hA hval
  obtain ⟨v0, vs0, d0, ds0, p0, q0, hargs, rfl, rfl, h0, r0⟩ := trodAll_cons hA
  obtain ⟨v1, vs1, d1, ds1, p1, q1, rfl, rfl, rfl, h1, r1⟩ := trodAll_cons r0
  obtain ⟨v2, vs2, d2, ds2, p2, q2, rfl, rfl, rfl, h2, r2⟩ := trodAll_cons r1
  obtain ⟨rfl, rfl, rfl⟩ := trodAll_nil r2
  obtain rfl : args = #[v0, v1, v2] := by cases args; simp_all
  obtain ⟨rfl, rfl⟩ := trodVars_none hV
  obtain ⟨x0, y0, e0, g0, m0, rfl, rfl, rfl, t0, u0⟩ := open_agg2 Try.underlying45 (by kernel_rfl) (by kernel_rfl) (hval 0 45 v0 rfl rfl) h0
  obtain ⟨b0, hb0, rfl, wx0⟩ := DataW.trod_int Try.underlying3 t0
  obtain ⟨c0, hc0, rfl, wy0⟩ := DataW.trod_int Try.underlying3 u0
  obtain rfl : x0 = .int .i64 b0 := by simpa using hb0
  obtain rfl : y0 = .int .i64 c0 := by simpa using hc0
  obtain ⟨x1, y1, e1, g1, m1, rfl, rfl, rfl, t1, u1⟩ := open_agg2 Try.underlying45 (by kernel_rfl) (by kernel_rfl) (hval 1 45 v1 rfl rfl) h1
  obtain ⟨b1, hb1, rfl, wx1⟩ := DataW.trod_int Try.underlying3 t1
  obtain ⟨c1, hc1, rfl, wy1⟩ := DataW.trod_int Try.underlying3 u1
  obtain rfl : x1 = .int .i64 b1 := by simpa using hb1
  obtain rfl : y1 = .int .i64 c1 := by simpa using hc1
  obtain ⟨x2, y2, e2, g2, m2, rfl, rfl, rfl, t2, u2⟩ := open_agg2 Try.underlying45 (by kernel_rfl) (by kernel_rfl) (hval 2 45 v2 rfl rfl) h2
  obtain ⟨b2, hb2, rfl, wx2⟩ := DataW.trod_int Try.underlying3 t2
  obtain ⟨c2, hc2, rfl, wy2⟩ := DataW.trod_int Try.underlying3 u2
  obtain rfl : x2 = .int .i64 b2 := by simpa using hb2
  obtain rfl : y2 = .int .i64 c2 := by simpa using hc2
  clear hA0 hval0
  refine (walkFnExactPartedOf b0 c0 b1 c1 b2 c2 W wx0 wy0 wx1 wy1 wx2 wy2).mono fun e W' ⟨he, bel⟩ => ?_
  subst he
  exact ⟨_, rfl, _, _, _, [], _, [], hW', trodAll_mk1 (shut_bool Try.underlying4 _), (trodAll_cons_mk (shut_agg2 (y0 := (.lit (.int .i64 b0), [])) (y1 := (.lit (.int .i64 c0), [])) Try.underlying45 (by kernel_rfl) (by kernel_rfl) ⟨1, trod_int_mk 0 Try.underlying3 wx0⟩ ⟨1, trod_int_mk 0 Try.underlying3 wy0⟩) (trodAll_cons_mk (shut_agg2 (y0 := (.lit (.int .i64 b1), [])) (y1 := (.lit (.int .i64 c1), [])) Try.underlying45 (by kernel_rfl) (by kernel_rfl) ⟨1, trod_int_mk 0 Try.underlying3 wx1⟩ ⟨1, trod_int_mk 0 Try.underlying3 wy1⟩) (trodAll_cons_mk (shut_agg2 (y0 := (.lit (.int .i64 b2), [])) (y1 := (.lit (.int .i64 c2), [])) Try.underlying45 (by kernel_rfl) (by kernel_rfl) ⟨1, trod_int_mk 0 Try.underlying3 wx2⟩ ⟨1, trod_int_mk 0 Try.underlying3 wy2⟩) trodAll_mk0))), rfl, bel.frame _, fun h => by cases h⟩

theorem over : Rows.fnExactPartedOfRow.holds Try.pinned (OpenSpec.ofChange Rows.fnExactPartedOfSpec) :=
  OpenClaim.holds_of_wide 9 Try.f9 rfl rfl rfl rfl rfl rfl rfl ⟨rfl, rfl, rfl, rfl, rfl⟩ rfl rfl rfl rfl rfl (by kernel_rfl) Try.func9 (by kernel_rfl)
    (of_decide_eq_true (by kernel_rfl)) (by unfold Func.isWrapper; first | (rw [if_pos (by decide +kernel)]; kernel_rfl) | (rw [if_neg (by decide +kernel)]; exact ⟨rfl, rfl⟩))
    (fun os started H enc _ => lifted os started H enc)

theorem proved : Rows.FnExactPartedOfSaid := over
#print axioms proved
end Go.Proofs.Ytggebkgfldmipaa.fnExactPartedOf

