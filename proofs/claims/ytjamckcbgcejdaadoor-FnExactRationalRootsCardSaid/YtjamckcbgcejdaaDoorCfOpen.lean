/- A cubic of the laws' that has been read (own work). -/
import Derived.Test.YtjamckcbgcejdaaDoorFrOpen
namespace Go.Proofs.YtjamckcbgcejdaaDoor
open Go.ChangeShapes Go.WideShapes Go.ChangeAt Go.RowKit Go.Joins

theorem Tryd.cellsLC : Tryd.prog.cellsOf 23 = 4 := by kernel_rfl
set_option maxRecDepth 100000 in
theorem open_cubic {H : Type} {enc : TypeId × Value → H} {W : World} {base : Nat} {v : Value} {d : DataW H} {p : List MemPlace} (hv : Value.okWide Tryd.prog W .any base 23 v) (h : DataW.Trod enc Tryd.prog W 0 (fun _ => true) true 23 v d p) :
    ∃ (x y z u : Int), v = .agg #[.int .i64 x, .int .i64 y, .int .i64 z, .int .i64 u] ∧ (-9223372036854775808 ≤ x ∧ x ≤ 9223372036854775807) ∧ (-9223372036854775808 ≤ y ∧ y ≤ 9223372036854775807) ∧ (-9223372036854775808 ≤ z ∧ z ≤ 9223372036854775807) ∧ (-9223372036854775808 ≤ u ∧ u ≤ 9223372036854775807) := by
  obtain ⟨c0, c1, c2, c3, y0, y1, y2, y3, m, rfl, rfl, rfl, hy0, hy1, hy2, hy3⟩ := open_agg4 Tryd.underlying23 (by kernel_rfl) Tryd.cellsLC hv h
  obtain ⟨x, e0, -, hx⟩ := DataW.trod_int Tryd.underlying3 hy0
  obtain ⟨y, e1, -, hy⟩ := DataW.trod_int Tryd.underlying3 hy1
  obtain ⟨z, e2, -, hz⟩ := DataW.trod_int Tryd.underlying3 hy2
  obtain ⟨u, e3, -, hu⟩ := DataW.trod_int Tryd.underlying3 hy3
  simp only [List.cons.injEq, and_true] at e0 e1 e2 e3
  subst e0 e1 e2 e3
  exact ⟨x, y, z, u, rfl, bounds_i64 hx, bounds_i64 hy, bounds_i64 hz, bounds_i64 hu⟩
end Go.Proofs.YtjamckcbgcejdaaDoor
