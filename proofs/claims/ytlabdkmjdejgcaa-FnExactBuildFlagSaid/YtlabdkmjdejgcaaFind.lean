import Derived.Test.YtlabdkmjdejgcaaSub
import Derived.Laws.StructEq
namespace Go.Proofs.Ytlabdkmjdejgcaa
open Go.RowKit
set_option linter.unusedVariables false
set_option maxRecDepth 100000

/-! ### looking for a definition -/
/-- The definition d is e. -/
def isD (e d : D) : Bool := e.name.toList == d.name.toList && e.val == d.val
theorem run_eqD (a b : ByteArray) (x y : Int) (w : World) :
    (binOp .eql 67 (.agg #[.string a, .int .i64 x]) (.agg #[.string b, .int .i64 y])).run Try.prog w = .ok (.bool (a.toList == b.toList && x == y)) w := by
  rw [run_eql_struct]
  cases h1 : (a.toList == b.toList) <;> cases h2 : (x == y) <;> simp_all [go_sem, Op.eqFields, part]

theorem run_neD (a b : ByteArray) (x y : Int) (w : World) :
    (binOp .neq 67 (.agg #[.string a, .int .i64 x]) (.agg #[.string b, .int .i64 y])).run Try.prog w = .ok (.bool (!(a.toList == b.toList && x == y))) w := by
  rw [run_neq_struct]
  cases h1 : (a.toList == b.toList) <;> cases h2 : (x == y) <;> simp_all [go_sem, Op.eqFields, part]

end Go.Proofs.Ytlabdkmjdejgcaa
