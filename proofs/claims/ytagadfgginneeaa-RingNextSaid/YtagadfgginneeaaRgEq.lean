/- Triples: whether two are one. -/
import Derived.Test.YtagadfgginneeaaRgRow
import Derived.Test.YtagadfgginneeaaRgMath2
import Derived.Laws.StructEq
namespace Go.Proofs.Ytagadfgginneeaa
set_option linter.unusedVariables false
set_option linter.unusedSimpArgs false
set_option maxRecDepth 100000
open Go.ChangeShapes Go.WideShapes Go.ChangeAt Go.RowKit
theorem eqIn_ids (a b c d e f : Int) (w : World) : (Op.equalIn 10000 24 (.agg #[.int .i64 a, .int .i64 b, .int .i64 c]) (.agg #[.int .i64 d, .int .i64 e, .int .i64 f])).run Try.prog w = .ok (decide (((a, b, c) : Rg.T) = (d, e, f))) w := by
  have u3 := Try.underlying3
  have a3 := Try.isAgg3
  have z3 := Try.sizeOf3
  rw [show (10000 : Nat) = 9999 + 1 from rfl, Op.equalIn]
  simp only [Sem.run_bind, run_underlying Try.underlying24, Result.andThen_ok]
  simp only [Std.Legacy.Range.forIn_eq_forIn_range', Std.Legacy.Range.size, Nat.sub_zero, Nat.add_sub_cancel, Nat.div_one, List.range'_succ, List.range'_zero, List.forIn_cons, List.forIn_nil]
  go_simp
  by_cases h1 : a = d <;> by_cases h2 : b = e <;> by_cases h3 : c = f <;> simp [h1, h2, h3]
theorem eql_ids (a b c d e f : Int) (w : World) : (binOp .eql 24 (.agg #[.int .i64 a, .int .i64 b, .int .i64 c]) (.agg #[.int .i64 d, .int .i64 e, .int .i64 f])).run Try.prog w = .ok (.bool (decide (((a, b, c) : Rg.T) = (d, e, f)))) w := by
  rw [run_eql_struct, eqIn_ids]; rfl
theorem neq_ids (a b c d e f : Int) (w : World) : (binOp .neq 24 (.agg #[.int .i64 a, .int .i64 b, .int .i64 c]) (.agg #[.int .i64 d, .int .i64 e, .int .i64 f])).run Try.prog w = .ok (.bool (!decide (((a, b, c) : Rg.T) = (d, e, f)))) w := by
  rw [run_neq_struct, eqIn_ids]; rfl
theorem index_ids (t : Rg.T) (c : Nat) (hc : c < 3) (w : World) : (Instr.index 24 (.agg #[.int .i64 t.1, .int .i64 t.2.1, .int .i64 t.2.2]) (.int .i64 c)).run Try.prog w = .ok (.int .i64 (Rg.at' t c)) w := by
  rcases Rg.c3 hc with rfl | rfl | rfl <;> simp [Instr.index, run_underlying Try.underlying24, asIntOf, go_sem, Rg.at', Try.sizeOf3, Try.isAgg3]
end Go.Proofs.Ytagadfgginneeaa
