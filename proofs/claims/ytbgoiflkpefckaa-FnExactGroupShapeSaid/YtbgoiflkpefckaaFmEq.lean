/- Equality of arrays of three ints as the program's (own work). -/
import Derived.Test.YtbgoiflkpefckaaMem
import Derived.Laws.StructEq
import Derived.ChangeKeysEq
namespace Go.Proofs.Ytbgoiflkpefckaa
open Go.RowKit Go.Joins

theorem cells_int : Try.prog.cellsOf 3 = 1 := by kernel_rfl
theorem info_int : ∃ i, Try.prog.info? 3 = some i := by
  cases h : Try.prog.info? 3 with
  | some i => exact ⟨i, rfl⟩
  | none =>
    have : (Try.prog.info? 3).isSome = true := by kernel_rfl
    rw [h] at this; cases this
theorem run_eqA (x y e x' y' e' : Int) (w : World) : (Op.equalIn 10000 70 (.agg #[.int .i64 x, .int .i64 y, .int .i64 e]) (.agg #[.int .i64 x', .int .i64 y', .int .i64 e'])).run Try.prog w = .ok (x == x' && y == y' && e == e') w := by
  obtain ⟨i, hi⟩ := info_int
  have hu : Try.prog.underlying 70 = some (.array 3 3) := by kernel_rfl
  rw [run_equalIn_array w 9999 (e := 3) (n := 3) _ _ hu hi, cells_int]
  show (Op.eqItems 9999 3 1 _ _ [0, 1, 2]).run Try.prog w = _
  cases h1 : x == x' <;> cases h2 : y == y' <;> cases h3 : e == e' <;> simp [Op.eqItems, go_sem, h1, h2, h3]
theorem run_eqF (x y e x' y' e' : Int) (w : World) : (binOp .eql 70 (.agg #[.int .i64 x, .int .i64 y, .int .i64 e]) (.agg #[.int .i64 x', .int .i64 y', .int .i64 e'])).run Try.prog w = .ok (.bool (x == x' && y == y' && e == e')) w := by
  rw [run_eql_struct, run_eqA]; rfl
theorem run_neF (x y e x' y' e' : Int) (w : World) : (binOp .neq 70 (.agg #[.int .i64 x, .int .i64 y, .int .i64 e]) (.agg #[.int .i64 x', .int .i64 y', .int .i64 e'])).run Try.prog w = .ok (.bool (!(x == x' && y == y' && e == e'))) w := by
  rw [run_neq_struct, run_eqA]; rfl
attribute [go_sem 20000] run_eqF run_neF
end Go.Proofs.Ytbgoiflkpefckaa
