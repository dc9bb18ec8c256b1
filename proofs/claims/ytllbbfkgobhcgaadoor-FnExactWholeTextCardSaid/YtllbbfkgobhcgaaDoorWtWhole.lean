import Derived.Test.YtllbbfkgobhcgaaDoorToInts
import Derived.Test.YtllbbfkgobhcgaaDoorEq
namespace Go.Proofs.YtllbbfkgobhcgaaDoor
open Go.RowKit Go.Joins

set_option maxHeartbeats 400000 in
theorem toWhole_any (neg : Bool) (A : Option Addr) (n c : Nat) (xs : List Int) (w : World) (hn : n ≤ 1048576) (h : Rd w w.heap.size A n xs) :
    Calls Tryd.prog 6 #[.agg #[.bool neg, .slice A n c]] w (GivesWhole w neg xs) := by
  have h3 : Below w.heap.size w (((w.alloc (.cells #[.bool neg, .slice A n c] 24)).alloc (.cells #[.bool false, .slice none 0 0] 28)).alloc (.cells #[.bool neg, .slice none 0 0] 28)) := below_alloc3 _ _ _ _
  have hr := (h.below h3).more (B' := w.heap.size + 1 + 1 + 1) (by omega)
  go_enter Tryd.func6, Tryd.ntmps6
  go_wp2_with fail
  refine (toIntS_any A n c xs _ hn (by simpa using hr)).mono ?_
  rintro e w1 ⟨A', c', rfl, hown, hb⟩
  have hbb := h3.trans (hb.mono (by simp; omega))
  have hsz : w.heap.size + 1 + 1 + 1 ≤ w1.heap.size := by have := hb.size; simpa using this
  obtain ⟨hc, hf⟩ := bcell hb
  clear hr h3
  go_wp2
  refine bodyPost_ret (v := .agg #[.bool neg, .slice A' xs.length c']) (by simp [results, Tryd.results6, go_sem, hc]) rfl ⟨A', c', rfl, ?_, ?_⟩
  · exact (((hown.set_below (by simp) _).set_below (by simp) _).set_below (by simp) _).le (by simp; omega)
  · exact ((hbb.setCell (by simp; omega) _).setCell (by simp) _).setCell (by simp) _

set_option maxHeartbeats 400000 in
theorem szWhole_any (neg : Bool) (A : Option Addr) (n c : Nat) (left : Int) (w : World) (hn : n ≤ 9223372036854775807) (h0 : 0 ≤ left) (h1 : left ≤ 1048576) :
    Calls Tryd.prog 4 #[.agg #[.bool neg, .slice A n c], .int .i64 left] w fun e w' => e = .returned (.int .i64 (if left < n then -1 else left - n)) ∧ Below w.heap.size w w' := by
  by_cases h : left < n
  · rw [if_pos h]
    have hc := szIntS_any A n c left (w.alloc (.cells #[.bool neg, .slice A n c] 24)) hn h0 h1
    rw [if_pos h] at hc
    have hc' := Lib.hid hc
    clear hc
    go_enter Tryd.func4, Tryd.ntmps4
    go_wp2_with (go_at_call 9; refine (hc'.out).mono ?_; rintro e w' ⟨rfl, rfl⟩)
    go_ret
    exact ⟨rfl, below_alloc1 _ _⟩
  · rw [if_neg h]
    have hc := szIntS_any A n c left (w.alloc (.cells #[.bool neg, .slice A n c] 24)) hn h0 h1
    rw [if_neg h] at hc
    have hc' := Lib.hid hc
    clear hc
    go_enter Tryd.func4, Tryd.ntmps4
    go_wp2_with (go_at_call 9; refine (hc'.out).mono ?_; rintro e w' ⟨rfl, rfl⟩)
    go_ret
    exact ⟨rfl, below_alloc1 _ _⟩

set_option maxHeartbeats 400000 in
theorem eqWhole_yes (na : Bool) (A B : Option Addr) (n c m d : Nat) (xs : List Int) (w : World) (hn : n ≤ 9223372036854775807) (h : Rd w w.heap.size A n xs) (h' : Rd w w.heap.size B m xs) :
    Calls Tryd.prog 8 #[.agg #[.bool na, .slice A n c], .agg #[.bool na, .slice B m d]] w fun e w' => e = .returned (.bool true) ∧ Below w.heap.size w w' := by
  have h2 : Below w.heap.size w ((w.alloc (.cells #[.bool na, .slice A n c] 28)).alloc (.cells #[.bool na, .slice B m d] 28)) := below_alloc2 _ _ _
  have hc := eqIntS_yes A B n c m d xs _ hn ((h.below h2).more (by simp; omega)) ((h'.below h2).more (by simp; omega))
  have hc' := Lib.hid hc
  clear hc h h'
  have e0 : (na != na) = false := by simp
  go_enter Tryd.func8, Tryd.ntmps8
  go_wp2_with fail
  refine (hc'.out).mono ?_
  rintro e w1 ⟨rfl, hb⟩
  have hbb := h2.trans (hb.mono (by simp; omega))
  clear hb h2
  go_wp2
  go_ret
  exact ⟨rfl, hbb⟩

end Go.Proofs.YtllbbfkgobhcgaaDoor
