/- The table of powers of ten, Itoa (own words of XTxText, without the fractions' texts). -/
import Derived.Test.YtanmkamagdajpaaDoorTxNum
import Derived.Test.YtanmkamagdajpaaDoorCtShelf
namespace Go.Proofs.YtanmkamagdajpaaDoor
open Go.RowKit Go.Joins

/-- The table of powers of ten reads as it was laid. -/
def Pow (w : World) : Prop := Lib.TabIs Tryd.prog w "internal/strconv.uint64pow10" .u64 Lib.pow10Tab
theorem Tryd.gPow : Tryd.prog.globalNamed "internal/strconv.uint64pow10" = some 1 := by kernel_rfl
theorem Pow.kept {w w' : World} (h : Pow w) (hb : Below w.heap.size w w') : Pow w' := by
  unfold Pow Lib.TabIs World.var? at h ⊢
  rw [Tryd.gPow] at h ⊢
  simp only [Option.bind_some] at h ⊢
  have hlt : 1 < w.heap.size := by
    rcases hh : w.heap[1]? with _ | o
    · rw [hh] at h; cases h
    · exact (Array.getElem?_eq_some_iff.1 hh).1
  rw [hb.block _ hlt]
  exact h
theorem below_grow (w : World) (k : Nat) (os : Array Obj) : Below w.heap.size w (Go.Sort.grow (w.drewN k) os) :=
  ⟨rfl, rfl, rfl, by show w.heap.size ≤ (w.heap ++ os).size; simp, fun i hi => by show (w.heap ++ os)[i]? = _; rw [Array.getElem?_append_left hi]⟩
theorem itoa_any (z : Int) (w : World) (hp : Pow w) (h0 : -9223372036854775808 ≤ z) (h1 : z ≤ 9223372036854775807) :
    Calls Tryd.prog 34 #[.int .i64 z] w fun e w' => e = .returned (.string (intB z)) ∧ Below w.heap.size w w' :=
  (Tryd.strconv_Itoa z h0 h1 w hp).mono fun e w' ⟨he, k, os, hw⟩ => ⟨he, by rw [hw]; exact below_grow w k os⟩

theorem intB_size22 (z : Int) (h0 : -9223372036854775807 ≤ z) (h1 : z ≤ 9223372036854775807) : (intB z).size ≤ 21 := by
  by_cases h : z < 0
  · rw [intB_neg h, ByteArray.size_append]
    have := numB_size20 z.natAbs (by omega)
    show 1 + _ ≤ _
    omega
  · rw [intB_pos (by omega)]
    have := numB_size20 z.toNat (by omega)
    omega
theorem ba_assoc (a b c : ByteArray) : a ++ b ++ c = a ++ (b ++ c) := by
  apply ByteArray.ext
  simp
def GivesSB (w : World) (s : ByteArray) (ok : Bool) (e : Ending) (w' : World) : Prop := e = .returned (.tuple #[.string s, .bool ok]) ∧ Below w.heap.size w w'

end Go.Proofs.YtanmkamagdajpaaDoor
