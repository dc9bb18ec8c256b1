/- Wholes that have been read. -/
import Derived.Test.YtllbbfkgobhcgaaDoorBase
namespace Go.Proofs.YtllbbfkgobhcgaaDoor
open Go.ChangeShapes Go.WideShapes Go.ChangeAt Go.RowKit Go.Joins

theorem Tryd.cellsW : Tryd.prog.cellsOf 24 = 2 := by kernel_rfl
theorem Tryd.cellsI : Tryd.prog.cellsOf 3 = 1 := by kernel_rfl

/-- A whole that has been read. -/
theorem open_whole {H : Type} {enc : TypeId × Value → H} {W : World} {base : Nat} {v : Value} {d : DataW H} {p : List MemPlace} (hv : Value.okWide Tryd.prog W .any base 24 v) (h : DataW.Trod enc Tryd.prog W 0 (fun _ => true) true 24 v d p) :
    ∃ (neg : Bool) (A : Option Addr) (n c : Nat) (xs : List Int), v = .agg #[.bool neg, .slice A n c] ∧ n ≤ 9223372036854775807 ∧ Rd W W.heap.size A n xs ∧ ∀ k : Nat, -9223372036854775808 ≤ xs[k]?.getD 0 ∧ xs[k]?.getD 0 ≤ 9223372036854775807 := by
  obtain ⟨c0, c1, y0, y1, m, rfl, rfl, rfl, hy0, hy1⟩ := open_agg2 Tryd.underlying24 (by kernel_rfl) Tryd.cellsW hv h
  obtain ⟨neg, e0, -⟩ := DataW.trod_bool Tryd.underlying4 hy0
  obtain ⟨A, n, c, e1⟩ := slice_form Tryd.underlying22 hy1
  simp only [List.cons.injEq, and_true] at e0 e1
  subst e0 e1
  obtain ⟨hn, xs, hr, hb⟩ := open_Rd Tryd.underlying22 Tryd.underlying3 Tryd.cellsI hy1
  exact ⟨neg, A, n, c, xs, rfl, hn, hr, hb⟩

end Go.Proofs.YtllbbfkgobhcgaaDoor
