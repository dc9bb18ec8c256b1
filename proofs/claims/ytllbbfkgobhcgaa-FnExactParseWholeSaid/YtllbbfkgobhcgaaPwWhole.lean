import Derived.Test.YtllbbfkgobhcgaaPwToInts
import Derived.Test.YtllbbfkgobhcgaaEq
import Derived.Test.YtllbbfkgobhcgaaMark
namespace Go.Proofs.Ytllbbfkgobhcgaa
open Go.RowKit Go.Joins

set_option maxHeartbeats 400000 in
theorem eqWhole_yes (na : Bool) (A B : Option Addr) (n c m d : Nat) (xs : List Int) (w : World) (hn : n ≤ 9223372036854775807) (h : Rd w w.heap.size A n xs) (h' : Rd w w.heap.size B m xs) :
    Calls Try.prog 6 #[.agg #[.bool na, .slice A n c], .agg #[.bool na, .slice B m d]] w fun e w' => e = .returned (.bool true) ∧ Below w.heap.size w w' := by
  have h2 : Below w.heap.size w ((w.alloc (.cells #[.bool na, .slice A n c] 24)).alloc (.cells #[.bool na, .slice B m d] 24)) := below_alloc2 _ _ _
  have hc := eqIntS_yes A B n c m d xs _ hn ((h.below h2).more (by simp; omega)) ((h'.below h2).more (by simp; omega))
  have hc' := Lib.hid hc
  clear hc h h'
  have e0 : (na != na) = false := by simp
  go_enter Try.func6, Try.ntmps6
  go_wp2_with fail
  refine (hc'.out).mono ?_
  rintro e w1 ⟨rfl, hb⟩
  have hbb := h2.trans (hb.mono (by simp; omega))
  clear hb h2
  go_wp2
  go_ret
  exact ⟨rfl, hbb⟩

set_option maxHeartbeats 400000 in
theorem markWhole_any (neg : Bool) (A : Option Addr) (c base : Nat) (xs : List Int) (k : Int) (w : World) (hk0 : 0 ≤ k) (hkn : k + xs.length ≤ 4611686018427387904) (h : Own w base (.slice A xs.length c) xs) :
    Calls Try.prog 7 #[.agg #[.bool neg, .slice A xs.length c], .int .i64 k] w fun e w' => e = .returned (.int .i64 (k + xs.length)) ∧ Own w' base (.slice A xs.length c) (marks k xs.length) ∧ w.grownBy w' (Value.slice A xs.length c).ownBlock := by
  have hc := markIntS_any A c base xs k _ hk0 hkn (h.alloc (.cells #[.bool neg, .slice A xs.length c] 24))
  have hc' := Lib.hid hc
  clear hc h
  go_enter Try.func7, Try.ntmps7
  go_wp2_with fail
  refine (hc'.out).mono ?_
  rintro e w1 ⟨rfl, hown, hg⟩
  have hgg := grown_trans (World.grownBy_alloc w (.cells #[.bool neg, .slice A xs.length c] 24) (Value.slice A xs.length c).ownBlock) hg
  clear hg
  go_wp2
  go_ret
  exact ⟨rfl, hown, hgg⟩

set_option maxHeartbeats 400000 in
theorem heldWhole_any (neg : Bool) (A : Option Addr) (n c B : Nat) (k : Int) (w : World) (hB : B ≤ w.heap.size) (hk0 : 0 ≤ k) (hkn : k + n ≤ 4611686018427387904) (h : Rd w B A n (marks k n)) :
    Calls Try.prog 8 #[.agg #[.bool neg, .slice A n c], .int .i64 k] w fun e w' => e = .returned (.int .i64 (k + n)) ∧ Below w.heap.size w w' := by
  have h1 : Below w.heap.size w (w.alloc (.cells #[.bool neg, .slice A n c] 24)) := below_alloc1 _ _
  have hc := heldIntS_any A n c B k _ hk0 hkn (h.below (h1.mono hB))
  have hc' := Lib.hid hc
  clear hc h
  go_enter Try.func8, Try.ntmps8
  go_wp2_with fail
  refine (hc'.out).mono ?_
  rintro e w1 ⟨rfl, rfl⟩
  go_wp2
  go_ret
  exact ⟨rfl, h1⟩
end Go.Proofs.Ytllbbfkgobhcgaa
