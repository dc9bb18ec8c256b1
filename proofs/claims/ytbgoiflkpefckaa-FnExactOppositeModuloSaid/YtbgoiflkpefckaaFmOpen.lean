/- A row of ints that has been read as an argument (own work). -/
import Derived.Test.YtbgoiflkpefckaaEcOpen
namespace Go.Proofs.Ytbgoiflkpefckaa
open Go.ChangeShapes Go.WideShapes Go.ChangeAt Go.RowKit Go.Joins

theorem Try.cellsIn : Try.prog.cellsOf 3 = 1 := by kernel_rfl
theorem open_row {H : Type} {enc : TypeId × Value → H} {W : World} {base : Nat} {v : Value} {d : DataW H} {p : List MemPlace} (hv : Value.okWide Try.prog W .any base 36 v) (h : DataW.Trod enc Try.prog W 0 (fun _ => true) true 36 v d p) :
    ∃ (A : Option Addr) (n c : Nat) (xs : List Int), v = .slice A n c ∧ n ≤ 9223372036854775807 ∧ Rd W W.heap.size A n xs := by
  obtain ⟨A, n, c, rfl⟩ := okWide_slice Try.underlying36 hv
  obtain ⟨fuel, hf⟩ := h
  obtain ⟨hn, xs, hr, _⟩ := open_Rd Try.underlying36 Try.underlying3 Try.cellsIn hf
  exact ⟨A, n, c, xs, rfl, hn, hr⟩
end Go.Proofs.Ytbgoiflkpefckaa
