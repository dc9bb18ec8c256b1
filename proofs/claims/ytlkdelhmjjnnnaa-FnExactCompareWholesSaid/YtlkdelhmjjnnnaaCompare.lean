/- The order of wholes: the law of CompareWholes. -/
import Derived.Test.YtlkdelhmjjnnnaaOrder
import Derived.Test.YtlkdelhmjjnnnaaLawCompareWholes
namespace Go.Proofs.Ytlkdelhmjjnnnaa
open Go.RowKit Go.Joins

/-- The order of two wholes. -/
def cmpW : Bool → List Int → Bool → List Int → Int
  | true, _, false, _ => -1
  | false, _, true, _ => 1
  | true, xs, true, ys => cmpTo ys xs (max ys.length xs.length)
  | false, xs, false, ys => cmpTo xs ys (max xs.length ys.length)

theorem cmpL_good {xs ys : List Int} {n m : Bool} (h1 : Good n xs) (h2 : Good m ys) : cmpL xs ys xs.length ys.length = cmpTo xs ys (max xs.length ys.length) := by
  obtain ⟨_, _, _, g1⟩ := h1
  obtain ⟨_, _, _, g2⟩ := h2
  unfold cmpL
  by_cases h : xs.length = ys.length
  · rw [if_pos h, h, Nat.max_self]
  · rw [if_neg h]
    by_cases hlt : xs.length < ys.length
    · obtain ⟨k, hk⟩ : ∃ k, ys.length = k + 1 := ⟨ys.length - 1, by omega⟩
      have g := g2 (by omega)
      rw [Nat.max_eq_right (by omega), hk, cmpTo_lt]
      · unfold cmpI; rw [if_pos (by omega)]
      · rw [List.getElem?_eq_none (by omega)]
        rw [hk] at g
        simpa using g
    · obtain ⟨k, hk⟩ : ∃ k, xs.length = k + 1 := ⟨xs.length - 1, by omega⟩
      have g := g1 (by omega)
      rw [Nat.max_eq_left (by omega), hk, cmpTo_gt]
      · unfold cmpI; rw [if_neg (by omega), if_pos (by omega)]
      · rw [List.getElem?_eq_none (by omega)]
        rw [hk] at g
        simpa using g

set_option maxHeartbeats 800000 in
theorem bgCompare_any (na nb : Bool) (A B : Option Addr) (c d : Nat) (xs ys : List Int) (w : World) (hn : xs.length ≤ 4611686018427387904) (hm : ys.length ≤ 4611686018427387904) (h : Rd w w.heap.size A xs.length xs) (h' : Rd w w.heap.size B ys.length ys) :
    Calls Try.prog 60 #[.agg #[.bool na, .slice A xs.length c], .agg #[.bool nb, .slice B ys.length d]] w (GivesInt w (cmpW na xs nb ys)) := by
  have h2 : Below w.heap.size w ((w.alloc (.cells #[.bool na, .slice A xs.length c] 27)).alloc (.cells #[.bool nb, .slice B ys.length d] 27)) := below_alloc2 _ _ _
  have c1 := Lib.hid (bgOrder_any A B _ c _ d _ xs ys _ hn hm (h.kept h2) (h'.kept h2))
  have c2 := Lib.hid (bgOrder_any B A _ d _ c _ ys xs _ hm hn (h'.kept h2) (h.kept h2))
  clear h h'
  cases na <;> cases nb
  · go_enter Try.func60, Try.ntmps60
    go_wp2_with fail
    refine (c1.out).mono ?_
    rintro e w' ⟨rfl, rfl⟩
    go_wp2
    go_ret
    exact ⟨rfl, h2⟩
  · go_enter Try.func60, Try.ntmps60
    go_wp2
    go_ret
    exact ⟨rfl, h2⟩
  · go_enter Try.func60, Try.ntmps60
    go_wp2
    go_ret
    exact ⟨rfl, h2⟩
  · go_enter Try.func60, Try.ntmps60
    go_wp2_with fail
    refine (c2.out).mono ?_
    rintro e w' ⟨rfl, rfl⟩
    go_wp2
    go_ret
    exact ⟨rfl, h2⟩

set_option maxHeartbeats 1000000 in
theorem compareS_no1 (neg0 : Bool) (A0 : Option Addr) (c0 : Nat) (xs0 : List Int) (neg1 : Bool) (A1 : Option Addr) (c1 : Nat) (xs1 : List Int) (w : World) (_hl0 : xs0.length ≤ 1048576) (_hr0 : Rd w w.heap.size A0 xs0.length xs0) (_hl1 : xs1.length ≤ 1048576) (_hr1 : Rd w w.heap.size A1 xs1.length xs1)  (hg : ¬ Good neg0 xs0)  :
    Calls Try.prog 31 #[.agg #[.bool neg0, .slice A0 xs0.length c0], .agg #[.bool neg1, .slice A1 xs1.length c1]] w (GivesIntOk w 0 false) := by
  have h := Below.refl w.heap.size w
  have hA := below_alloc1 w (.cells #[.bool neg0, .slice A0 xs0.length c0] 27)
  replace h := Below.step h hA
  have hx0 := Box.new w 27 #[.bool neg0, .slice A0 xs0.length c0]
  clear hA
  have hA := below_alloc1 (w.alloc (.cells #[.bool neg0, .slice A0 xs0.length c0] 27)) (.cells #[.bool neg1, .slice A1 xs1.length c1] 27)
  replace h := Below.step h hA
  replace hx0 := hx0.kept hA
  have hx1 := Box.new (w.alloc (.cells #[.bool neg0, .slice A0 xs0.length c0] 27)) 27 #[.bool neg1, .slice A1 xs1.length c1]
  rw [show (w.alloc (.cells #[.bool neg0, .slice A0 xs0.length c0] 27)).heap.size = w.heap.size + 1 from by simp] at hx1
  clear hA
  go_enter Try.func31, Try.ntmps31
  go_wp2_with fail
  refine (bgGood_no neg0 A0 _ c0 xs0 _ (by omega) (_hr0.kept h) hg).mono ?_
  rintro e w1 ⟨rfl, hb⟩
  replace h := Below.step h hb
  replace hx0 := hx0.kept hb
  replace hx1 := hx1.kept hb
  clear hb
  obtain ⟨ahx0, bhx0⟩ := hx0.two
  have lhx0 := hx0.lt
  obtain ⟨ahx1, bhx1⟩ := hx1.two
  have lhx1 := hx1.lt
  go_wp2_with fail
  go_ret2
  exact ⟨rfl, h⟩

set_option maxHeartbeats 1000000 in
theorem compareS_no2 (neg0 : Bool) (A0 : Option Addr) (c0 : Nat) (xs0 : List Int) (neg1 : Bool) (A1 : Option Addr) (c1 : Nat) (xs1 : List Int) (w : World) (_hl0 : xs0.length ≤ 1048576) (_hr0 : Rd w w.heap.size A0 xs0.length xs0) (_hl1 : xs1.length ≤ 1048576) (_hr1 : Rd w w.heap.size A1 xs1.length xs1) (hg0 : Good neg0 xs0) (hg : ¬ Good neg1 xs1)  :
    Calls Try.prog 31 #[.agg #[.bool neg0, .slice A0 xs0.length c0], .agg #[.bool neg1, .slice A1 xs1.length c1]] w (GivesIntOk w 0 false) := by
  have h := Below.refl w.heap.size w
  have hA := below_alloc1 w (.cells #[.bool neg0, .slice A0 xs0.length c0] 27)
  replace h := Below.step h hA
  have hx0 := Box.new w 27 #[.bool neg0, .slice A0 xs0.length c0]
  clear hA
  have hA := below_alloc1 (w.alloc (.cells #[.bool neg0, .slice A0 xs0.length c0] 27)) (.cells #[.bool neg1, .slice A1 xs1.length c1] 27)
  replace h := Below.step h hA
  replace hx0 := hx0.kept hA
  have hx1 := Box.new (w.alloc (.cells #[.bool neg0, .slice A0 xs0.length c0] 27)) 27 #[.bool neg1, .slice A1 xs1.length c1]
  rw [show (w.alloc (.cells #[.bool neg0, .slice A0 xs0.length c0] 27)).heap.size = w.heap.size + 1 from by simp] at hx1
  clear hA
  go_enter Try.func31, Try.ntmps31
  go_wp2_with fail
  refine (bgGood_yes neg0 A0 _ c0 xs0 _ (_hr0.kept h) hg0).mono ?_
  rintro e w1 ⟨rfl, hb⟩
  replace h := Below.step h hb
  replace hx0 := hx0.kept hb
  replace hx1 := hx1.kept hb
  clear hb
  obtain ⟨ahx0, bhx0⟩ := hx0.two
  have lhx0 := hx0.lt
  obtain ⟨ahx1, bhx1⟩ := hx1.two
  have lhx1 := hx1.lt
  go_wp2_with fail
  refine (bgGood_no neg1 A1 _ c1 xs1 _ (by omega) (_hr1.kept h) hg).mono ?_
  rintro e w2 ⟨rfl, hb⟩
  replace h := Below.step h hb
  replace hx0 := hx0.kept hb
  replace hx1 := hx1.kept hb
  clear hb ahx0 bhx0 lhx0 ahx1 bhx1 lhx1
  obtain ⟨ahx0, bhx0⟩ := hx0.two
  have lhx0 := hx0.lt
  obtain ⟨ahx1, bhx1⟩ := hx1.two
  have lhx1 := hx1.lt
  go_wp2_with fail
  go_ret2
  exact ⟨rfl, h⟩

set_option maxHeartbeats 1000000 in
theorem compareI_no1 (neg0 : Bool) (A0 : Option Addr) (c0 : Nat) (xs0 : List Int) (neg1 : Bool) (A1 : Option Addr) (c1 : Nat) (xs1 : List Int) (w : World) (_hl0 : xs0.length ≤ 1048576) (_hr0 : Rd w w.heap.size A0 xs0.length xs0) (_hl1 : xs1.length ≤ 1048576) (_hr1 : Rd w w.heap.size A1 xs1.length xs1)  (hg : ¬ Good neg0 xs0)  :
    Calls Try.prog 32 #[.agg #[.bool neg0, .slice A0 xs0.length c0], .agg #[.bool neg1, .slice A1 xs1.length c1]] w (GivesIntOk w 0 false) := by
  have h := Below.refl w.heap.size w
  have hA := below_alloc1 w (.cells #[.bool neg0, .slice A0 xs0.length c0] 27)
  replace h := Below.step h hA
  have hx0 := Box.new w 27 #[.bool neg0, .slice A0 xs0.length c0]
  clear hA
  have hA := below_alloc1 (w.alloc (.cells #[.bool neg0, .slice A0 xs0.length c0] 27)) (.cells #[.bool neg1, .slice A1 xs1.length c1] 27)
  replace h := Below.step h hA
  replace hx0 := hx0.kept hA
  have hx1 := Box.new (w.alloc (.cells #[.bool neg0, .slice A0 xs0.length c0] 27)) 27 #[.bool neg1, .slice A1 xs1.length c1]
  rw [show (w.alloc (.cells #[.bool neg0, .slice A0 xs0.length c0] 27)).heap.size = w.heap.size + 1 from by simp] at hx1
  clear hA
  go_enter Try.func32, Try.ntmps32
  go_wp2_with fail
  refine (isWholeI_no neg0 A0 _ c0 xs0 _ (by omega) (_hr0.kept h) hg).mono ?_
  rintro e w1 ⟨rfl, hb⟩
  replace h := Below.step h hb
  replace hx0 := hx0.kept hb
  replace hx1 := hx1.kept hb
  clear hb
  obtain ⟨ahx0, bhx0⟩ := hx0.two
  have lhx0 := hx0.lt
  obtain ⟨ahx1, bhx1⟩ := hx1.two
  have lhx1 := hx1.lt
  go_wp2_with fail
  go_ret2
  exact ⟨rfl, h⟩

set_option maxHeartbeats 1000000 in
theorem compareI_no2 (neg0 : Bool) (A0 : Option Addr) (c0 : Nat) (xs0 : List Int) (neg1 : Bool) (A1 : Option Addr) (c1 : Nat) (xs1 : List Int) (w : World) (_hl0 : xs0.length ≤ 1048576) (_hr0 : Rd w w.heap.size A0 xs0.length xs0) (_hl1 : xs1.length ≤ 1048576) (_hr1 : Rd w w.heap.size A1 xs1.length xs1) (hg0 : Good neg0 xs0) (hg : ¬ Good neg1 xs1)  :
    Calls Try.prog 32 #[.agg #[.bool neg0, .slice A0 xs0.length c0], .agg #[.bool neg1, .slice A1 xs1.length c1]] w (GivesIntOk w 0 false) := by
  have h := Below.refl w.heap.size w
  have hA := below_alloc1 w (.cells #[.bool neg0, .slice A0 xs0.length c0] 27)
  replace h := Below.step h hA
  have hx0 := Box.new w 27 #[.bool neg0, .slice A0 xs0.length c0]
  clear hA
  have hA := below_alloc1 (w.alloc (.cells #[.bool neg0, .slice A0 xs0.length c0] 27)) (.cells #[.bool neg1, .slice A1 xs1.length c1] 27)
  replace h := Below.step h hA
  replace hx0 := hx0.kept hA
  have hx1 := Box.new (w.alloc (.cells #[.bool neg0, .slice A0 xs0.length c0] 27)) 27 #[.bool neg1, .slice A1 xs1.length c1]
  rw [show (w.alloc (.cells #[.bool neg0, .slice A0 xs0.length c0] 27)).heap.size = w.heap.size + 1 from by simp] at hx1
  clear hA
  go_enter Try.func32, Try.ntmps32
  go_wp2_with fail
  refine (isWholeI_yes neg0 A0 _ c0 xs0 _ (_hr0.kept h) hg0).mono ?_
  rintro e w1 ⟨rfl, hb⟩
  replace h := Below.step h hb
  replace hx0 := hx0.kept hb
  replace hx1 := hx1.kept hb
  clear hb
  obtain ⟨ahx0, bhx0⟩ := hx0.two
  have lhx0 := hx0.lt
  obtain ⟨ahx1, bhx1⟩ := hx1.two
  have lhx1 := hx1.lt
  go_wp2_with fail
  refine (isWholeI_no neg1 A1 _ c1 xs1 _ (by omega) (_hr1.kept h) hg).mono ?_
  rintro e w2 ⟨rfl, hb⟩
  replace h := Below.step h hb
  replace hx0 := hx0.kept hb
  replace hx1 := hx1.kept hb
  clear hb ahx0 bhx0 lhx0 ahx1 bhx1 lhx1
  obtain ⟨ahx0, bhx0⟩ := hx0.two
  have lhx0 := hx0.lt
  obtain ⟨ahx1, bhx1⟩ := hx1.two
  have lhx1 := hx1.lt
  go_wp2_with fail
  go_ret2
  exact ⟨rfl, h⟩

set_option maxHeartbeats 1000000 in
theorem compareS_yes (neg0 : Bool) (A0 : Option Addr) (c0 : Nat) (xs0 : List Int) (neg1 : Bool) (A1 : Option Addr) (c1 : Nat) (xs1 : List Int) (w : World) (_hl0 : xs0.length ≤ 1048576) (_hr0 : Rd w w.heap.size A0 xs0.length xs0) (_hl1 : xs1.length ≤ 1048576) (_hr1 : Rd w w.heap.size A1 xs1.length xs1) (hg0 : Good neg0 xs0) (hg1 : Good neg1 xs1) :
    Calls Try.prog 31 #[.agg #[.bool neg0, .slice A0 xs0.length c0], .agg #[.bool neg1, .slice A1 xs1.length c1]] w (GivesIntOk w (cmpW neg0 xs0 neg1 xs1) true) := by
  have h := Below.refl w.heap.size w
  have hA := below_alloc1 w (.cells #[.bool neg0, .slice A0 xs0.length c0] 27)
  replace h := Below.step h hA
  have hx0 := Box.new w 27 #[.bool neg0, .slice A0 xs0.length c0]
  clear hA
  have hA := below_alloc1 (w.alloc (.cells #[.bool neg0, .slice A0 xs0.length c0] 27)) (.cells #[.bool neg1, .slice A1 xs1.length c1] 27)
  replace h := Below.step h hA
  replace hx0 := hx0.kept hA
  have hx1 := Box.new (w.alloc (.cells #[.bool neg0, .slice A0 xs0.length c0] 27)) 27 #[.bool neg1, .slice A1 xs1.length c1]
  rw [show (w.alloc (.cells #[.bool neg0, .slice A0 xs0.length c0] 27)).heap.size = w.heap.size + 1 from by simp] at hx1
  clear hA
  go_enter Try.func31, Try.ntmps31
  go_wp2_with fail
  refine (bgGood_yes neg0 A0 _ c0 xs0 _ (_hr0.kept h) hg0).mono ?_
  rintro e w1 ⟨rfl, hb⟩
  replace h := Below.step h hb
  replace hx0 := hx0.kept hb
  replace hx1 := hx1.kept hb
  clear hb
  obtain ⟨ahx0, bhx0⟩ := hx0.two
  have lhx0 := hx0.lt
  obtain ⟨ahx1, bhx1⟩ := hx1.two
  have lhx1 := hx1.lt
  go_wp2_with fail
  refine (bgGood_yes neg1 A1 _ c1 xs1 _ (_hr1.kept h) hg1).mono ?_
  rintro e w2 ⟨rfl, hb⟩
  replace h := Below.step h hb
  replace hx0 := hx0.kept hb
  replace hx1 := hx1.kept hb
  clear hb ahx0 bhx0 lhx0 ahx1 bhx1 lhx1
  obtain ⟨ahx0, bhx0⟩ := hx0.two
  have lhx0 := hx0.lt
  obtain ⟨ahx1, bhx1⟩ := hx1.two
  have lhx1 := hx1.lt
  go_wp2_with fail
  refine (bgCompare_any neg0 neg1 A0 A1 c0 c1 xs0 xs1 _ (by omega) (by omega) (_hr0.kept h) (_hr1.kept h)).mono ?_
  rintro e w3 ⟨rfl, hb⟩
  replace h := Below.step h hb
  replace hx0 := hx0.kept hb
  replace hx1 := hx1.kept hb
  clear hb ahx0 bhx0 lhx0 ahx1 bhx1 lhx1
  go_wp2_with fail
  go_ret2
  exact ⟨rfl, h⟩

set_option maxHeartbeats 1000000 in
theorem compareI_yes (neg0 : Bool) (A0 : Option Addr) (c0 : Nat) (xs0 : List Int) (neg1 : Bool) (A1 : Option Addr) (c1 : Nat) (xs1 : List Int) (w : World) (_hl0 : xs0.length ≤ 1048576) (_hr0 : Rd w w.heap.size A0 xs0.length xs0) (_hl1 : xs1.length ≤ 1048576) (_hr1 : Rd w w.heap.size A1 xs1.length xs1) (hg0 : Good neg0 xs0) (hg1 : Good neg1 xs1) :
    Calls Try.prog 32 #[.agg #[.bool neg0, .slice A0 xs0.length c0], .agg #[.bool neg1, .slice A1 xs1.length c1]] w (GivesIntOk w (cmpW neg0 xs0 neg1 xs1) true) := by
  have e10 := cmpL_good hg0 hg1
  have e01 := cmpL_good hg1 hg0
  replace e10 := Lib.hid e10
  replace e01 := Lib.hid e01
  have h := Below.refl w.heap.size w
  have hA := below_alloc1 w (.cells #[.bool neg0, .slice A0 xs0.length c0] 27)
  replace h := Below.step h hA
  have hx0 := Box.new w 27 #[.bool neg0, .slice A0 xs0.length c0]
  clear hA
  have hA := below_alloc1 (w.alloc (.cells #[.bool neg0, .slice A0 xs0.length c0] 27)) (.cells #[.bool neg1, .slice A1 xs1.length c1] 27)
  replace h := Below.step h hA
  replace hx0 := hx0.kept hA
  have hx1 := Box.new (w.alloc (.cells #[.bool neg0, .slice A0 xs0.length c0] 27)) 27 #[.bool neg1, .slice A1 xs1.length c1]
  rw [show (w.alloc (.cells #[.bool neg0, .slice A0 xs0.length c0] 27)).heap.size = w.heap.size + 1 from by simp] at hx1
  clear hA
  cases neg0 <;> cases neg1
  · go_enter Try.func32, Try.ntmps32
    go_wp2_with fail
    refine (isWholeI_yes false A0 _ c0 xs0 _ (_hr0.kept h) hg0).mono ?_
    rintro e w1 ⟨rfl, hb⟩
    replace h := Below.step h hb
    replace hx0 := hx0.kept hb
    replace hx1 := hx1.kept hb
    clear hb
    obtain ⟨ahx0, bhx0⟩ := hx0.two
    have lhx0 := hx0.lt
    obtain ⟨ahx1, bhx1⟩ := hx1.two
    have lhx1 := hx1.lt
    go_wp2_with fail
    refine (isWholeI_yes false A1 _ c1 xs1 _ (_hr1.kept h) hg1).mono ?_
    rintro e w2 ⟨rfl, hb⟩
    replace h := Below.step h hb
    replace hx0 := hx0.kept hb
    replace hx1 := hx1.kept hb
    clear hb ahx0 bhx0 lhx0 ahx1 bhx1 lhx1
    obtain ⟨ahx0, bhx0⟩ := hx0.two
    have lhx0 := hx0.lt
    obtain ⟨ahx1, bhx1⟩ := hx1.two
    have lhx1 := hx1.lt
    go_wp2_with fail
    refine (compareLimbs_any A0 A1 _ c0 _ c1 xs0 xs1 _ (by omega) (by omega) (_hr0.kept h) (_hr1.kept h)).mono ?_
    rintro e w3 ⟨rfl, hb⟩
    replace h := Below.step h hb
    replace hx0 := hx0.kept hb
    replace hx1 := hx1.kept hb
    clear hb ahx0 bhx0 lhx0 ahx1 bhx1 lhx1
    go_wp2_with fail
    go_ret2
    exact ⟨by rw [e10.out]; rfl, h⟩
  · go_enter Try.func32, Try.ntmps32
    go_wp2_with fail
    refine (isWholeI_yes false A0 _ c0 xs0 _ (_hr0.kept h) hg0).mono ?_
    rintro e w1 ⟨rfl, hb⟩
    replace h := Below.step h hb
    replace hx0 := hx0.kept hb
    replace hx1 := hx1.kept hb
    clear hb
    obtain ⟨ahx0, bhx0⟩ := hx0.two
    have lhx0 := hx0.lt
    obtain ⟨ahx1, bhx1⟩ := hx1.two
    have lhx1 := hx1.lt
    go_wp2_with fail
    refine (isWholeI_yes true A1 _ c1 xs1 _ (_hr1.kept h) hg1).mono ?_
    rintro e w2 ⟨rfl, hb⟩
    replace h := Below.step h hb
    replace hx0 := hx0.kept hb
    replace hx1 := hx1.kept hb
    clear hb ahx0 bhx0 lhx0 ahx1 bhx1 lhx1
    obtain ⟨ahx0, bhx0⟩ := hx0.two
    have lhx0 := hx0.lt
    obtain ⟨ahx1, bhx1⟩ := hx1.two
    have lhx1 := hx1.lt
    go_wp2_with fail
    go_ret2
    exact ⟨rfl, h⟩
  · go_enter Try.func32, Try.ntmps32
    go_wp2_with fail
    refine (isWholeI_yes true A0 _ c0 xs0 _ (_hr0.kept h) hg0).mono ?_
    rintro e w1 ⟨rfl, hb⟩
    replace h := Below.step h hb
    replace hx0 := hx0.kept hb
    replace hx1 := hx1.kept hb
    clear hb
    obtain ⟨ahx0, bhx0⟩ := hx0.two
    have lhx0 := hx0.lt
    obtain ⟨ahx1, bhx1⟩ := hx1.two
    have lhx1 := hx1.lt
    go_wp2_with fail
    refine (isWholeI_yes false A1 _ c1 xs1 _ (_hr1.kept h) hg1).mono ?_
    rintro e w2 ⟨rfl, hb⟩
    replace h := Below.step h hb
    replace hx0 := hx0.kept hb
    replace hx1 := hx1.kept hb
    clear hb ahx0 bhx0 lhx0 ahx1 bhx1 lhx1
    obtain ⟨ahx0, bhx0⟩ := hx0.two
    have lhx0 := hx0.lt
    obtain ⟨ahx1, bhx1⟩ := hx1.two
    have lhx1 := hx1.lt
    go_wp2_with fail
    go_ret2
    exact ⟨rfl, h⟩
  · go_enter Try.func32, Try.ntmps32
    go_wp2_with fail
    refine (isWholeI_yes true A0 _ c0 xs0 _ (_hr0.kept h) hg0).mono ?_
    rintro e w1 ⟨rfl, hb⟩
    replace h := Below.step h hb
    replace hx0 := hx0.kept hb
    replace hx1 := hx1.kept hb
    clear hb
    obtain ⟨ahx0, bhx0⟩ := hx0.two
    have lhx0 := hx0.lt
    obtain ⟨ahx1, bhx1⟩ := hx1.two
    have lhx1 := hx1.lt
    go_wp2_with fail
    refine (isWholeI_yes true A1 _ c1 xs1 _ (_hr1.kept h) hg1).mono ?_
    rintro e w2 ⟨rfl, hb⟩
    replace h := Below.step h hb
    replace hx0 := hx0.kept hb
    replace hx1 := hx1.kept hb
    clear hb ahx0 bhx0 lhx0 ahx1 bhx1 lhx1
    obtain ⟨ahx0, bhx0⟩ := hx0.two
    have lhx0 := hx0.lt
    obtain ⟨ahx1, bhx1⟩ := hx1.two
    have lhx1 := hx1.lt
    go_wp2_with fail
    refine (compareLimbs_any A1 A0 _ c1 _ c0 xs1 xs0 _ (by omega) (by omega) (_hr1.kept h) (_hr0.kept h)).mono ?_
    rintro e w3 ⟨rfl, hb⟩
    replace h := Below.step h hb
    replace hx0 := hx0.kept hb
    replace hx1 := hx1.kept hb
    clear hb ahx0 bhx0 lhx0 ahx1 bhx1 lhx1
    go_wp2_with fail
    go_ret2
    exact ⟨by rw [e01.out]; rfl, h⟩

theorem lawCompareWholes_any (neg0 : Bool) (A0 : Option Addr) (n0 c0 : Nat) (xs0 : List Int) (neg1 : Bool) (A1 : Option Addr) (n1 c1 : Nat) (xs1 : List Int) (w : World) (hm0 : n0 ≤ 9223372036854775807) (hr0 : Rd w w.heap.size A0 n0 xs0) (hm1 : n1 ≤ 9223372036854775807) (hr1 : Rd w w.heap.size A1 n1 xs1) :
    Calls Try.prog 9 #[.agg #[.bool neg0, .slice A0 n0 c0], .agg #[.bool neg1, .slice A1 n1 c1]] w fun e w' => e = .returned (.bool true) ∧ Below w.heap.size w w' := by
  by_cases hg0 : Good neg0 xs0
  · by_cases hg1 : Good neg1 xs1
    · exact lawCompareWholes_core neg0 A0 n0 c0 xs0 neg1 A1 n1 c1 xs1 w hm0 hr0 hm1 hr1 _ _ (fun h0 h1 A0 c0 A1 c1 w r0 _ r1 _ => compareS_yes neg0 A0 c0 xs0 neg1 A1 c1 xs1 w h0 r0 h1 r1 hg0 hg1) (fun h0 h1 A0 c0 A1 c1 w r0 _ r1 _ => compareI_yes neg0 A0 c0 xs0 neg1 A1 c1 xs1 w h0 r0 h1 r1 hg0 hg1)
    · exact lawCompareWholes_core neg0 A0 n0 c0 xs0 neg1 A1 n1 c1 xs1 w hm0 hr0 hm1 hr1 _ _ (fun h0 h1 A0 c0 A1 c1 w r0 _ r1 _ => compareS_no2 neg0 A0 c0 xs0 neg1 A1 c1 xs1 w h0 r0 h1 r1 hg0 hg1) (fun h0 h1 A0 c0 A1 c1 w r0 _ r1 _ => compareI_no2 neg0 A0 c0 xs0 neg1 A1 c1 xs1 w h0 r0 h1 r1 hg0 hg1)
  · exact lawCompareWholes_core neg0 A0 n0 c0 xs0 neg1 A1 n1 c1 xs1 w hm0 hr0 hm1 hr1 _ _ (fun h0 h1 A0 c0 A1 c1 w r0 _ r1 _ => compareS_no1 neg0 A0 c0 xs0 neg1 A1 c1 xs1 w h0 r0 h1 r1 hg0) (fun h0 h1 A0 c0 A1 c1 w r0 _ r1 _ => compareI_no1 neg0 A0 c0 xs0 neg1 A1 c1 xs1 w h0 r0 h1 r1 hg0)
end Go.Proofs.Ytlkdelhmjjnnnaa
