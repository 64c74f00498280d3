import Derived.Test.YtggebkgfldmipaaA
namespace Go.Proofs.Ytggebkgfldmipaa
open Go Go.RowKit
/-- Two numbers compared: both parts. -/
theorem eqG (W : World) (x y a b : Int) : (binOp .eql 24 (.agg #[.int .i64 x, .int .i64 y]) (.agg #[.int .i64 a, .int .i64 b])).run Try.prog W = .ok (.bool (x == a && y == b)) W := by
  rw [run_eql_struct, run_equalIn_struct _ _ _ _ _ (by kernel_rfl) (by kernel_rfl)]
  cases h1 : x == a <;> cases h2 : y == b <;> simp [go_sem, Try.underlying24, Try.underlying3, h1, h2]
theorem neG (W : World) (x y a b : Int) : (binOp .neq 24 (.agg #[.int .i64 x, .int .i64 y]) (.agg #[.int .i64 a, .int .i64 b])).run Try.prog W = .ok (.bool (!(x == a && y == b))) W := by
  rw [run_neq_struct, run_equalIn_struct _ _ _ _ _ (by kernel_rfl) (by kernel_rfl)]
  cases h1 : x == a <;> cases h2 : y == b <;> simp [go_sem, Try.underlying24, Try.underlying3, h1, h2]
end Go.Proofs.Ytggebkgfldmipaa
