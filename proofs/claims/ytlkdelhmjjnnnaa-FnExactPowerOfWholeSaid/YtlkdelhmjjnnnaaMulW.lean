/- MultiplyWholes: the model's and the program's. -/
import Derived.Test.YtlkdelhmjjnnnaaMul
import Derived.Test.YtlkdelhmjjnnnaaMulI
import Derived.Test.YtlkdelhmjjnnnaaLawMultiplyWholes
namespace Go.Proofs.Ytlkdelhmjjnnnaa
open Go.RowKit Go.Joins

set_option maxHeartbeats 1000000 in
theorem muS_no1 (neg0 : Bool) (A0 : Option Addr) (c0 : Nat) (xs0 : List Int) (neg1 : Bool) (A1 : Option Addr) (c1 : Nat) (xs1 : List Int) (w : World) (_hl0 : xs0.length ≤ 1048576) (_hr0 : Rd w w.heap.size A0 xs0.length xs0) (_hl1 : xs1.length ≤ 1048576) (_hr1 : Rd w w.heap.size A1 xs1.length xs1)  (hg : ¬ Good neg0 xs0)  :
    Calls Try.prog 27 #[.agg #[.bool neg0, .slice A0 xs0.length c0], .agg #[.bool neg1, .slice A1 xs1.length c1]] w (GivesWholeOk w false [] false) := by
  have h := Below.refl w.heap.size w
  have hA := below_alloc1 w (.cells #[.bool neg0, .slice A0 xs0.length c0] 27)
  replace h := Below.step h hA
  have hx0 := Box.new w 27 #[.bool neg0, .slice A0 xs0.length c0]
  clear hA
  have hA := below_alloc1 (w.alloc (.cells #[.bool neg0, .slice A0 xs0.length c0] 27)) (.cells #[.bool neg1, .slice A1 xs1.length c1] 27)
  replace h := Below.step h hA
  replace hx0 := hx0.kept hA
  have hx1 := Box.new (w.alloc (.cells #[.bool neg0, .slice A0 xs0.length c0] 27)) 27 #[.bool neg1, .slice A1 xs1.length c1]
  rw [show (w.alloc (.cells #[.bool neg0, .slice A0 xs0.length c0] 27)).heap.size = w.heap.size + 1 from by simp] at hx1
  clear hA
  have hA := below_alloc1 ((w.alloc (.cells #[.bool neg0, .slice A0 xs0.length c0] 27)).alloc (.cells #[.bool neg1, .slice A1 xs1.length c1] 27)) (.cells #[.bool false, .slice none 0 0] 27)
  replace h := Below.step h hA
  replace hx0 := hx0.kept hA
  replace hx1 := hx1.kept hA
  have hxr := Box.new ((w.alloc (.cells #[.bool neg0, .slice A0 xs0.length c0] 27)).alloc (.cells #[.bool neg1, .slice A1 xs1.length c1] 27)) 27 #[.bool false, .slice none 0 0]
  rw [show ((w.alloc (.cells #[.bool neg0, .slice A0 xs0.length c0] 27)).alloc (.cells #[.bool neg1, .slice A1 xs1.length c1] 27)).heap.size = w.heap.size + 1 + 1 from by simp] at hxr
  clear hA
  go_enter Try.func27, Try.ntmps27
  go_wp2_with fail
  refine (bgGood_no neg0 A0 _ c0 xs0 _ (by omega) (_hr0.kept h) hg).mono ?_
  rintro e w1 ⟨rfl, hb⟩
  replace h := Below.step h hb
  replace hx0 := hx0.kept hb
  replace hx1 := hx1.kept hb
  replace hxr := hxr.kept hb
  clear hb
  obtain ⟨ahx0, bhx0⟩ := hx0.two
  have lhx0 := hx0.lt
  obtain ⟨ahx1, bhx1⟩ := hx1.two
  have lhx1 := hx1.lt
  obtain ⟨ahxr, bhxr⟩ := hxr.two
  have lhxr := hxr.lt
  have f0 := hxr.free 0
  have f1 := hxr.free 1
  go_wp2_with fail
  refine bodyPost_ret (v := .tuple #[.agg #[.bool false, .slice none 0 0], .bool false]) (by simp [results, Try.results27, go_sem, ahxr, bhxr]) rfl ⟨none, 0, rfl, World.ownsRow_nil _ _ _ _, ?_⟩
  exact (h.setCell (by first | (simp; done) | (simp; omega)) _).setCell (by first | (simp; done) | (simp; omega)) _

set_option maxHeartbeats 1000000 in
theorem muS_no2 (neg0 : Bool) (A0 : Option Addr) (c0 : Nat) (xs0 : List Int) (neg1 : Bool) (A1 : Option Addr) (c1 : Nat) (xs1 : List Int) (w : World) (_hl0 : xs0.length ≤ 1048576) (_hr0 : Rd w w.heap.size A0 xs0.length xs0) (_hl1 : xs1.length ≤ 1048576) (_hr1 : Rd w w.heap.size A1 xs1.length xs1) (hg0 : Good neg0 xs0) (hg : ¬ Good neg1 xs1)  :
    Calls Try.prog 27 #[.agg #[.bool neg0, .slice A0 xs0.length c0], .agg #[.bool neg1, .slice A1 xs1.length c1]] w (GivesWholeOk w false [] false) := by
  have h := Below.refl w.heap.size w
  have hA := below_alloc1 w (.cells #[.bool neg0, .slice A0 xs0.length c0] 27)
  replace h := Below.step h hA
  have hx0 := Box.new w 27 #[.bool neg0, .slice A0 xs0.length c0]
  clear hA
  have hA := below_alloc1 (w.alloc (.cells #[.bool neg0, .slice A0 xs0.length c0] 27)) (.cells #[.bool neg1, .slice A1 xs1.length c1] 27)
  replace h := Below.step h hA
  replace hx0 := hx0.kept hA
  have hx1 := Box.new (w.alloc (.cells #[.bool neg0, .slice A0 xs0.length c0] 27)) 27 #[.bool neg1, .slice A1 xs1.length c1]
  rw [show (w.alloc (.cells #[.bool neg0, .slice A0 xs0.length c0] 27)).heap.size = w.heap.size + 1 from by simp] at hx1
  clear hA
  have hA := below_alloc1 ((w.alloc (.cells #[.bool neg0, .slice A0 xs0.length c0] 27)).alloc (.cells #[.bool neg1, .slice A1 xs1.length c1] 27)) (.cells #[.bool false, .slice none 0 0] 27)
  replace h := Below.step h hA
  replace hx0 := hx0.kept hA
  replace hx1 := hx1.kept hA
  have hxr := Box.new ((w.alloc (.cells #[.bool neg0, .slice A0 xs0.length c0] 27)).alloc (.cells #[.bool neg1, .slice A1 xs1.length c1] 27)) 27 #[.bool false, .slice none 0 0]
  rw [show ((w.alloc (.cells #[.bool neg0, .slice A0 xs0.length c0] 27)).alloc (.cells #[.bool neg1, .slice A1 xs1.length c1] 27)).heap.size = w.heap.size + 1 + 1 from by simp] at hxr
  clear hA
  go_enter Try.func27, Try.ntmps27
  go_wp2_with fail
  refine (bgGood_yes neg0 A0 _ c0 xs0 _ (_hr0.kept h) hg0).mono ?_
  rintro e w1 ⟨rfl, hb⟩
  replace h := Below.step h hb
  replace hx0 := hx0.kept hb
  replace hx1 := hx1.kept hb
  replace hxr := hxr.kept hb
  clear hb
  obtain ⟨ahx0, bhx0⟩ := hx0.two
  have lhx0 := hx0.lt
  obtain ⟨ahx1, bhx1⟩ := hx1.two
  have lhx1 := hx1.lt
  obtain ⟨ahxr, bhxr⟩ := hxr.two
  have lhxr := hxr.lt
  go_wp2_with fail
  refine (bgGood_no neg1 A1 _ c1 xs1 _ (by omega) (_hr1.kept h) hg).mono ?_
  rintro e w2 ⟨rfl, hb⟩
  replace h := Below.step h hb
  replace hx0 := hx0.kept hb
  replace hx1 := hx1.kept hb
  replace hxr := hxr.kept hb
  clear hb ahx0 bhx0 lhx0 ahx1 bhx1 lhx1 ahxr bhxr lhxr
  obtain ⟨ahx0, bhx0⟩ := hx0.two
  have lhx0 := hx0.lt
  obtain ⟨ahx1, bhx1⟩ := hx1.two
  have lhx1 := hx1.lt
  obtain ⟨ahxr, bhxr⟩ := hxr.two
  have lhxr := hxr.lt
  have f0 := hxr.free 0
  have f1 := hxr.free 1
  go_wp2_with fail
  refine bodyPost_ret (v := .tuple #[.agg #[.bool false, .slice none 0 0], .bool false]) (by simp [results, Try.results27, go_sem, ahxr, bhxr]) rfl ⟨none, 0, rfl, World.ownsRow_nil _ _ _ _, ?_⟩
  exact (h.setCell (by first | (simp; done) | (simp; omega)) _).setCell (by first | (simp; done) | (simp; omega)) _

set_option maxHeartbeats 4000000 in
set_option maxRecDepth 100000 in
theorem muS_yes (neg0 : Bool) (A0 : Option Addr) (c0 : Nat) (xs0 : List Int) (neg1 : Bool) (A1 : Option Addr) (c1 : Nat) (xs1 : List Int) (w : World) (_hl0 : xs0.length ≤ 1048576) (_hr0 : Rd w w.heap.size A0 xs0.length xs0) (_hl1 : xs1.length ≤ 1048576) (_hr1 : Rd w w.heap.size A1 xs1.length xs1) (hg0 : Good neg0 xs0) (hg1 : Good neg1 xs1) :
    ∀ z, z = num neg0 xs0 * num neg1 xs1 → Calls Try.prog 27 #[.agg #[.bool neg0, .slice A0 xs0.length c0], .agg #[.bool neg1, .slice A1 xs1.length c1]] w (GivesWholeOk w (resNeg z) (resDigs z) (resOk z)) := by
  intro z hz
  replace hz := Lib.hid hz
  have h := Below.refl w.heap.size w
  have hA := below_alloc1 w (.cells #[.bool neg0, .slice A0 xs0.length c0] 27)
  replace h := Below.step h hA
  have hx0 := Box.new w 27 #[.bool neg0, .slice A0 xs0.length c0]
  clear hA
  have hA := below_alloc1 (w.alloc (.cells #[.bool neg0, .slice A0 xs0.length c0] 27)) (.cells #[.bool neg1, .slice A1 xs1.length c1] 27)
  replace h := Below.step h hA
  replace hx0 := hx0.kept hA
  have hx1 := Box.new (w.alloc (.cells #[.bool neg0, .slice A0 xs0.length c0] 27)) 27 #[.bool neg1, .slice A1 xs1.length c1]
  rw [show (w.alloc (.cells #[.bool neg0, .slice A0 xs0.length c0] 27)).heap.size = w.heap.size + 1 from by simp] at hx1
  clear hA
  have hA := below_alloc1 ((w.alloc (.cells #[.bool neg0, .slice A0 xs0.length c0] 27)).alloc (.cells #[.bool neg1, .slice A1 xs1.length c1] 27)) (.cells #[.bool false, .slice none 0 0] 27)
  replace h := Below.step h hA
  replace hx0 := hx0.kept hA
  replace hx1 := hx1.kept hA
  have hxr := Box.new ((w.alloc (.cells #[.bool neg0, .slice A0 xs0.length c0] 27)).alloc (.cells #[.bool neg1, .slice A1 xs1.length c1] 27)) 27 #[.bool false, .slice none 0 0]
  rw [show ((w.alloc (.cells #[.bool neg0, .slice A0 xs0.length c0] 27)).alloc (.cells #[.bool neg1, .slice A1 xs1.length c1] 27)).heap.size = w.heap.size + 1 + 1 from by simp] at hxr
  clear hA
  have l0 := hg0.len
  have l1 := hg1.len
  go_enter Try.func27, Try.ntmps27
  go_wp2_with fail
  refine (bgGood_yes neg0 A0 _ c0 xs0 _ (_hr0.kept h) hg0).mono ?_
  rintro e w1 ⟨rfl, hb⟩
  replace h := Below.step h hb
  replace hx0 := hx0.kept hb
  replace hx1 := hx1.kept hb
  replace hxr := hxr.kept hb
  clear hb
  obtain ⟨ahx0, bhx0⟩ := hx0.two
  have lhx0 := hx0.lt
  obtain ⟨ahx1, bhx1⟩ := hx1.two
  have lhx1 := hx1.lt
  obtain ⟨ahxr, bhxr⟩ := hxr.two
  have lhxr := hxr.lt
  go_wp2_with fail
  refine (bgGood_yes neg1 A1 _ c1 xs1 _ (_hr1.kept h) hg1).mono ?_
  rintro e w2 ⟨rfl, hb⟩
  replace h := Below.step h hb
  replace hx0 := hx0.kept hb
  replace hx1 := hx1.kept hb
  replace hxr := hxr.kept hb
  clear hb ahx0 bhx0 lhx0 ahx1 bhx1 lhx1 ahxr bhxr lhxr
  obtain ⟨ahx0, bhx0⟩ := hx0.two
  have lhx0 := hx0.lt
  obtain ⟨ahx1, bhx1⟩ := hx1.two
  have lhx1 := hx1.lt
  obtain ⟨ahxr, bhxr⟩ := hxr.two
  have lhxr := hxr.lt
  go_wp2_with fail
  refine (bgMul_any neg0 A0 _ c0 xs0 neg1 A1 _ c1 xs1 _ (by omega) (by omega) (_hr0.kept h) (_hr1.kept h) hg0.rng hg1.rng z hz.out).mono ?_
  rintro e w8 ⟨Am, cm, rfl, hom, hb⟩
  have hbase := h.size
  replace h := Below.step h hb
  replace hx0 := hx0.kept hb
  replace hx1 := hx1.kept hb
  replace hxr := hxr.kept hb
  clear hb ahx0 bhx0 lhx0 ahx1 bhx1 lhx1 ahxr bhxr lhxr
  obtain ⟨ahx0, bhx0⟩ := hx0.two
  have lhx0 := hx0.lt
  obtain ⟨ahx1, bhx1⟩ := hx1.two
  have lhx1 := hx1.lt
  obtain ⟨ahxr, bhxr⟩ := hxr.two
  have lhxr := hxr.lt
  go_wp2_with fail
  refine (bgIf_any z Am cm _ _ hom.len hom).mono ?_
  rintro e w9 ⟨Ar, cr, rfl, hor, hb⟩
  replace h := Below.step h hb
  replace hx0 := hx0.kept hb
  replace hx1 := hx1.kept hb
  replace hxr := hxr.kept hb
  clear hb ahx0 bhx0 lhx0 ahx1 bhx1 lhx1 ahxr bhxr lhxr
  obtain ⟨ahx0, bhx0⟩ := hx0.two
  have lhx0 := hx0.lt
  obtain ⟨ahx1, bhx1⟩ := hx1.two
  have lhx1 := hx1.lt
  obtain ⟨ahxr, bhxr⟩ := hxr.two
  have lhxr := hxr.lt
  have f0 := hxr.free 0
  have f1 := hxr.free 1
  go_wp2_with fail
  refine bodyPost_ret (v := .tuple #[.agg #[.bool (resNeg z), .slice Ar (resDigs z).length cr], .bool (resOk z)]) (by simp [results, Try.results27, go_sem, ahxr, bhxr]) rfl ⟨Ar, cr, rfl, ?_, ?_⟩
  · exact ((hor.set_box hxr (by decide)).set_box (hxr.set 0 _) (by decide)).le hbase
  · exact (h.setCell (by first | (simp; done) | (simp; omega)) _).setCell (by first | (simp; done) | (simp; omega)) _

set_option maxHeartbeats 1000000 in
theorem muI_no1 (neg0 : Bool) (A0 : Option Addr) (c0 : Nat) (xs0 : List Int) (neg1 : Bool) (A1 : Option Addr) (c1 : Nat) (xs1 : List Int) (w : World) (_hl0 : xs0.length ≤ 1048576) (_hr0 : Rd w w.heap.size A0 xs0.length xs0) (_hl1 : xs1.length ≤ 1048576) (_hr1 : Rd w w.heap.size A1 xs1.length xs1)  (hg : ¬ Good neg0 xs0)  :
    Calls Try.prog 28 #[.agg #[.bool neg0, .slice A0 xs0.length c0], .agg #[.bool neg1, .slice A1 xs1.length c1]] w (GivesWholeOk w false [] false) := by
  have h := Below.refl w.heap.size w
  have hA := below_alloc1 w (.cells #[.bool neg0, .slice A0 xs0.length c0] 27)
  replace h := Below.step h hA
  have hx0 := Box.new w 27 #[.bool neg0, .slice A0 xs0.length c0]
  clear hA
  have hA := below_alloc1 (w.alloc (.cells #[.bool neg0, .slice A0 xs0.length c0] 27)) (.cells #[.bool neg1, .slice A1 xs1.length c1] 27)
  replace h := Below.step h hA
  replace hx0 := hx0.kept hA
  have hx1 := Box.new (w.alloc (.cells #[.bool neg0, .slice A0 xs0.length c0] 27)) 27 #[.bool neg1, .slice A1 xs1.length c1]
  rw [show (w.alloc (.cells #[.bool neg0, .slice A0 xs0.length c0] 27)).heap.size = w.heap.size + 1 from by simp] at hx1
  clear hA
  have hA := below_alloc1 ((w.alloc (.cells #[.bool neg0, .slice A0 xs0.length c0] 27)).alloc (.cells #[.bool neg1, .slice A1 xs1.length c1] 27)) (.cells #[.bool false, .slice none 0 0] 27)
  replace h := Below.step h hA
  replace hx0 := hx0.kept hA
  replace hx1 := hx1.kept hA
  have hxr := Box.new ((w.alloc (.cells #[.bool neg0, .slice A0 xs0.length c0] 27)).alloc (.cells #[.bool neg1, .slice A1 xs1.length c1] 27)) 27 #[.bool false, .slice none 0 0]
  rw [show ((w.alloc (.cells #[.bool neg0, .slice A0 xs0.length c0] 27)).alloc (.cells #[.bool neg1, .slice A1 xs1.length c1] 27)).heap.size = w.heap.size + 1 + 1 from by simp] at hxr
  clear hA
  go_enter Try.func28, Try.ntmps28
  go_wp2_with fail
  refine (isWholeI_no neg0 A0 _ c0 xs0 _ (by omega) (_hr0.kept h) hg).mono ?_
  rintro e w1 ⟨rfl, hb⟩
  replace h := Below.step h hb
  replace hx0 := hx0.kept hb
  replace hx1 := hx1.kept hb
  replace hxr := hxr.kept hb
  clear hb
  obtain ⟨ahx0, bhx0⟩ := hx0.two
  have lhx0 := hx0.lt
  obtain ⟨ahx1, bhx1⟩ := hx1.two
  have lhx1 := hx1.lt
  obtain ⟨ahxr, bhxr⟩ := hxr.two
  have lhxr := hxr.lt
  have f0 := hxr.free 0
  have f1 := hxr.free 1
  go_wp2_with fail
  refine bodyPost_ret (v := .tuple #[.agg #[.bool false, .slice none 0 0], .bool false]) (by simp [results, Try.results28, go_sem, ahxr, bhxr]) rfl ⟨none, 0, rfl, World.ownsRow_nil _ _ _ _, ?_⟩
  exact (h.setCell (by first | (simp; done) | (simp; omega)) _).setCell (by first | (simp; done) | (simp; omega)) _

set_option maxHeartbeats 1000000 in
theorem muI_no2 (neg0 : Bool) (A0 : Option Addr) (c0 : Nat) (xs0 : List Int) (neg1 : Bool) (A1 : Option Addr) (c1 : Nat) (xs1 : List Int) (w : World) (_hl0 : xs0.length ≤ 1048576) (_hr0 : Rd w w.heap.size A0 xs0.length xs0) (_hl1 : xs1.length ≤ 1048576) (_hr1 : Rd w w.heap.size A1 xs1.length xs1) (hg0 : Good neg0 xs0) (hg : ¬ Good neg1 xs1)  :
    Calls Try.prog 28 #[.agg #[.bool neg0, .slice A0 xs0.length c0], .agg #[.bool neg1, .slice A1 xs1.length c1]] w (GivesWholeOk w false [] false) := by
  have h := Below.refl w.heap.size w
  have hA := below_alloc1 w (.cells #[.bool neg0, .slice A0 xs0.length c0] 27)
  replace h := Below.step h hA
  have hx0 := Box.new w 27 #[.bool neg0, .slice A0 xs0.length c0]
  clear hA
  have hA := below_alloc1 (w.alloc (.cells #[.bool neg0, .slice A0 xs0.length c0] 27)) (.cells #[.bool neg1, .slice A1 xs1.length c1] 27)
  replace h := Below.step h hA
  replace hx0 := hx0.kept hA
  have hx1 := Box.new (w.alloc (.cells #[.bool neg0, .slice A0 xs0.length c0] 27)) 27 #[.bool neg1, .slice A1 xs1.length c1]
  rw [show (w.alloc (.cells #[.bool neg0, .slice A0 xs0.length c0] 27)).heap.size = w.heap.size + 1 from by simp] at hx1
  clear hA
  have hA := below_alloc1 ((w.alloc (.cells #[.bool neg0, .slice A0 xs0.length c0] 27)).alloc (.cells #[.bool neg1, .slice A1 xs1.length c1] 27)) (.cells #[.bool false, .slice none 0 0] 27)
  replace h := Below.step h hA
  replace hx0 := hx0.kept hA
  replace hx1 := hx1.kept hA
  have hxr := Box.new ((w.alloc (.cells #[.bool neg0, .slice A0 xs0.length c0] 27)).alloc (.cells #[.bool neg1, .slice A1 xs1.length c1] 27)) 27 #[.bool false, .slice none 0 0]
  rw [show ((w.alloc (.cells #[.bool neg0, .slice A0 xs0.length c0] 27)).alloc (.cells #[.bool neg1, .slice A1 xs1.length c1] 27)).heap.size = w.heap.size + 1 + 1 from by simp] at hxr
  clear hA
  go_enter Try.func28, Try.ntmps28
  go_wp2_with fail
  refine (isWholeI_yes neg0 A0 _ c0 xs0 _ (_hr0.kept h) hg0).mono ?_
  rintro e w1 ⟨rfl, hb⟩
  replace h := Below.step h hb
  replace hx0 := hx0.kept hb
  replace hx1 := hx1.kept hb
  replace hxr := hxr.kept hb
  clear hb
  obtain ⟨ahx0, bhx0⟩ := hx0.two
  have lhx0 := hx0.lt
  obtain ⟨ahx1, bhx1⟩ := hx1.two
  have lhx1 := hx1.lt
  obtain ⟨ahxr, bhxr⟩ := hxr.two
  have lhxr := hxr.lt
  go_wp2_with fail
  refine (isWholeI_no neg1 A1 _ c1 xs1 _ (by omega) (_hr1.kept h) hg).mono ?_
  rintro e w2 ⟨rfl, hb⟩
  replace h := Below.step h hb
  replace hx0 := hx0.kept hb
  replace hx1 := hx1.kept hb
  replace hxr := hxr.kept hb
  clear hb ahx0 bhx0 lhx0 ahx1 bhx1 lhx1 ahxr bhxr lhxr
  obtain ⟨ahx0, bhx0⟩ := hx0.two
  have lhx0 := hx0.lt
  obtain ⟨ahx1, bhx1⟩ := hx1.two
  have lhx1 := hx1.lt
  obtain ⟨ahxr, bhxr⟩ := hxr.two
  have lhxr := hxr.lt
  have f0 := hxr.free 0
  have f1 := hxr.free 1
  go_wp2_with fail
  refine bodyPost_ret (v := .tuple #[.agg #[.bool false, .slice none 0 0], .bool false]) (by simp [results, Try.results28, go_sem, ahxr, bhxr]) rfl ⟨none, 0, rfl, World.ownsRow_nil _ _ _ _, ?_⟩
  exact (h.setCell (by first | (simp; done) | (simp; omega)) _).setCell (by first | (simp; done) | (simp; omega)) _

set_option maxHeartbeats 4000000 in
set_option maxRecDepth 100000 in
theorem muI_yes (neg0 : Bool) (A0 : Option Addr) (c0 : Nat) (xs0 : List Int) (neg1 : Bool) (A1 : Option Addr) (c1 : Nat) (xs1 : List Int) (w : World) (_hl0 : xs0.length ≤ 1048576) (_hr0 : Rd w w.heap.size A0 xs0.length xs0) (_hl1 : xs1.length ≤ 1048576) (_hr1 : Rd w w.heap.size A1 xs1.length xs1) (hg0 : Good neg0 xs0) (hg1 : Good neg1 xs1) :
    ∀ z, z = num neg0 xs0 * num neg1 xs1 → Calls Try.prog 28 #[.agg #[.bool neg0, .slice A0 xs0.length c0], .agg #[.bool neg1, .slice A1 xs1.length c1]] w (GivesWholeOk w (resNeg z) (resDigs z) (resOk z)) := by
  intro z hz
  replace hz := Lib.hid hz
  have h := Below.refl w.heap.size w
  have hA := below_alloc1 w (.cells #[.bool neg0, .slice A0 xs0.length c0] 27)
  replace h := Below.step h hA
  have hx0 := Box.new w 27 #[.bool neg0, .slice A0 xs0.length c0]
  clear hA
  have hA := below_alloc1 (w.alloc (.cells #[.bool neg0, .slice A0 xs0.length c0] 27)) (.cells #[.bool neg1, .slice A1 xs1.length c1] 27)
  replace h := Below.step h hA
  replace hx0 := hx0.kept hA
  have hx1 := Box.new (w.alloc (.cells #[.bool neg0, .slice A0 xs0.length c0] 27)) 27 #[.bool neg1, .slice A1 xs1.length c1]
  rw [show (w.alloc (.cells #[.bool neg0, .slice A0 xs0.length c0] 27)).heap.size = w.heap.size + 1 from by simp] at hx1
  clear hA
  have hA := below_alloc1 ((w.alloc (.cells #[.bool neg0, .slice A0 xs0.length c0] 27)).alloc (.cells #[.bool neg1, .slice A1 xs1.length c1] 27)) (.cells #[.bool false, .slice none 0 0] 27)
  replace h := Below.step h hA
  replace hx0 := hx0.kept hA
  replace hx1 := hx1.kept hA
  have hxr := Box.new ((w.alloc (.cells #[.bool neg0, .slice A0 xs0.length c0] 27)).alloc (.cells #[.bool neg1, .slice A1 xs1.length c1] 27)) 27 #[.bool false, .slice none 0 0]
  rw [show ((w.alloc (.cells #[.bool neg0, .slice A0 xs0.length c0] 27)).alloc (.cells #[.bool neg1, .slice A1 xs1.length c1] 27)).heap.size = w.heap.size + 1 + 1 from by simp] at hxr
  clear hA
  have l0 := hg0.len
  have l1 := hg1.len
  go_enter Try.func28, Try.ntmps28
  go_wp2_with fail
  refine (isWholeI_yes neg0 A0 _ c0 xs0 _ (_hr0.kept h) hg0).mono ?_
  rintro e w1 ⟨rfl, hb⟩
  replace h := Below.step h hb
  replace hx0 := hx0.kept hb
  replace hx1 := hx1.kept hb
  replace hxr := hxr.kept hb
  clear hb
  obtain ⟨ahx0, bhx0⟩ := hx0.two
  have lhx0 := hx0.lt
  obtain ⟨ahx1, bhx1⟩ := hx1.two
  have lhx1 := hx1.lt
  obtain ⟨ahxr, bhxr⟩ := hxr.two
  have lhxr := hxr.lt
  go_wp2_with fail
  refine (isWholeI_yes neg1 A1 _ c1 xs1 _ (_hr1.kept h) hg1).mono ?_
  rintro e w2 ⟨rfl, hb⟩
  replace h := Below.step h hb
  replace hx0 := hx0.kept hb
  replace hx1 := hx1.kept hb
  replace hxr := hxr.kept hb
  clear hb ahx0 bhx0 lhx0 ahx1 bhx1 lhx1 ahxr bhxr lhxr
  go_wp2_with fail
  obtain ⟨g0, e0⟩ : ∃ g, g = w.heap.size := ⟨_, rfl⟩
  obtain ⟨g1, e1⟩ : ∃ g, g = w.heap.size + 1 := ⟨_, rfl⟩
  obtain ⟨gr, er⟩ : ∃ g, g = w.heap.size + 1 + 1 := ⟨_, rfl⟩
  have n0 : g0 ≠ gr := by omega
  have n1 : g1 ≠ gr := by omega
  have hgr : w.heap.size ≤ gr := by omega
  rw [← er] at hxr
  rw [← e1] at hx1
  rw [← e0] at hx0
  rw [← er, ← e1, ← e0]
  obtain ⟨k00, k01⟩ := hx0.two
  obtain ⟨k10, k11⟩ := hx1.two
  clear e0 e1 er
  have KS : ∀ (W : World) (i j : Nat) (u v : Value), (W.cell? ⟨g0, 0, none⟩ = some (.bool neg0) ∧ W.cell? ⟨g0, 1, none⟩ = some (.slice A0 xs0.length c0) ∧ W.cell? ⟨g1, 0, none⟩ = some (.bool neg1) ∧ W.cell? ⟨g1, 1, none⟩ = some (.slice A1 xs1.length c1) ∧ Below w.heap.size w W) → (((W.setCell ⟨gr, i, none⟩ u).setCell ⟨gr, j, none⟩ v).cell? ⟨g0, 0, none⟩ = some (.bool neg0) ∧ ((W.setCell ⟨gr, i, none⟩ u).setCell ⟨gr, j, none⟩ v).cell? ⟨g0, 1, none⟩ = some (.slice A0 xs0.length c0) ∧ ((W.setCell ⟨gr, i, none⟩ u).setCell ⟨gr, j, none⟩ v).cell? ⟨g1, 0, none⟩ = some (.bool neg1) ∧ ((W.setCell ⟨gr, i, none⟩ u).setCell ⟨gr, j, none⟩ v).cell? ⟨g1, 1, none⟩ = some (.slice A1 xs1.length c1) ∧ Below w.heap.size w ((W.setCell ⟨gr, i, none⟩ u).setCell ⟨gr, j, none⟩ v)) := fun W i j u v ⟨q0, q1, q2, q3, hW⟩ => ⟨(cell_far n0).trans ((cell_far n0).trans q0), (cell_far n0).trans ((cell_far n0).trans q1), (cell_far n1).trans ((cell_far n1).trans q2), (cell_far n1).trans ((cell_far n1).trans q3), (hW.setCell hgr _).setCell hgr _⟩
  have KC : ∀ (W W' : World), Below W.heap.size W W' → (W.cell? ⟨g0, 0, none⟩ = some (.bool neg0) ∧ W.cell? ⟨g0, 1, none⟩ = some (.slice A0 xs0.length c0) ∧ W.cell? ⟨g1, 0, none⟩ = some (.bool neg1) ∧ W.cell? ⟨g1, 1, none⟩ = some (.slice A1 xs1.length c1) ∧ Below w.heap.size w W) → (W'.cell? ⟨g0, 0, none⟩ = some (.bool neg0) ∧ W'.cell? ⟨g0, 1, none⟩ = some (.slice A0 xs0.length c0) ∧ W'.cell? ⟨g1, 0, none⟩ = some (.bool neg1) ∧ W'.cell? ⟨g1, 1, none⟩ = some (.slice A1 xs1.length c1) ∧ Below w.heap.size w W') := fun W W' hb ⟨q0, q1, q2, q3, hW⟩ => ⟨(hb.cell (p := ⟨g0, 0, none⟩) (World.block_lt_of_cell? W _ q0)).trans q0, (hb.cell (p := ⟨g0, 1, none⟩) (World.block_lt_of_cell? W _ q1)).trans q1, (hb.cell (p := ⟨g1, 0, none⟩) (World.block_lt_of_cell? W _ q2)).trans q2, (hb.cell (p := ⟨g1, 1, none⟩) (World.block_lt_of_cell? W _ q3)).trans q3, Below.step hW hb⟩
  have KB : ∀ (W : World), (W.cell? ⟨g0, 0, none⟩ = some (.bool neg0) ∧ W.cell? ⟨g0, 1, none⟩ = some (.slice A0 xs0.length c0) ∧ W.cell? ⟨g1, 0, none⟩ = some (.bool neg1) ∧ W.cell? ⟨g1, 1, none⟩ = some (.slice A1 xs1.length c1) ∧ Below w.heap.size w W) → Below w.heap.size w W := fun W ⟨_, _, _, _, hW⟩ => hW
  have KM0 : (World.drew w2).cell? ⟨g0, 0, none⟩ = some (.bool neg0) ∧ (World.drew w2).cell? ⟨g0, 1, none⟩ = some (.slice A0 xs0.length c0) ∧ (World.drew w2).cell? ⟨g1, 0, none⟩ = some (.bool neg1) ∧ (World.drew w2).cell? ⟨g1, 1, none⟩ = some (.slice A1 xs1.length c1) ∧ Below w.heap.size w (World.drew w2) := ⟨by assumption, by assumption, by assumption, by assumption, ⟨h.os, h.tape, h.output, h.size, h.block⟩⟩
  have hgt := hxr.lt
  replace KS := Lib.hid KS
  replace KC := Lib.hid KC
  replace KB := Lib.hid KB
  have hnum0 : ∀ out : List Int, val out = val xs0 * val xs1 → num (neg0 != neg1) out = z := fun out ho => by rw [num_mul ho, hz.out]
  replace hnum0 := Lib.hid hnum0
  go_region_held3 (fun w' => w'.cell? ⟨g0, 0, none⟩ = some (.bool neg0) ∧ w'.cell? ⟨g0, 1, none⟩ = some (.slice A0 xs0.length c0) ∧ w'.cell? ⟨g1, 0, none⟩ = some (.bool neg1) ∧ w'.cell? ⟨g1, 1, none⟩ = some (.slice A1 xs1.length c1) ∧ Below w.heap.size w w') ((first | assumption | (apply KC.out; assumption; assumption) | (refine KS.out _ _ _ _ _ ?_; assumption)))
    (first
      | (go_at_call 47; (first | (with_reducible refine (wholeWith_any (neg0 != neg1) _ _ _ out _ hlenO hoA hRng).mono ?_) | (with_reducible refine (wholeWith_any (!(neg0 == neg1)) _ _ _ out _ hlenO hoA hRng).mono ?_)); (first | rw [hnum] | (rw [show num (!(neg0 == neg1)) out = z from hnum])); rintro e wB ⟨Ar, cr, rfl, hor, hbB⟩; have hSB : wB.cell? ⟨g0, 0, none⟩ = some (.bool neg0) ∧ wB.cell? ⟨g0, 1, none⟩ = some (.slice A0 xs0.length c0) ∧ wB.cell? ⟨g1, 0, none⟩ = some (.bool neg1) ∧ wB.cell? ⟨g1, 1, none⟩ = some (.slice A1 xs1.length c1) ∧ Below w.heap.size w wB := KC.out _ _ hbB (by assumption); have hxB := (hxr.kept (w' := wA) ⟨hbA.os, hbA.tape, hbA.output, hbA.size, hbA.block⟩).kept hbB; obtain ⟨u0, u1⟩ := hxB.two; have u2 := hxB.free 0; have u3 := hxB.free 1)
      | (go_at_call 55; (with_reducible refine (multiplyLimbs_any _ _ _ xs0 _ _ _ xs1 _ ?_ ?_ ?_ ?_ ?_ ?_).mono ?_); (exact hg0.len); (exact hg1.len); (exact _hr0.kept (KB.out _ (by assumption))); (exact _hr1.kept (KB.out _ (by assumption))); (exact hg0.rng); (exact hg1.rng); rintro e wA ⟨Ao, co, out, rfl, hoA, hRng, hval, hlenO, hbA⟩; have hSA : wA.cell? ⟨g0, 0, none⟩ = some (.bool neg0) ∧ wA.cell? ⟨g0, 1, none⟩ = some (.slice A0 xs0.length c0) ∧ wA.cell? ⟨g1, 0, none⟩ = some (.bool neg1) ∧ wA.cell? ⟨g1, 1, none⟩ = some (.slice A1 xs1.length c1) ∧ Below w.heap.size w wA := KC.out _ _ hbA (by assumption); have hnum : num (neg0 != neg1) out = z := hnum0.out out hval))
  all_goals go_wp2_with fail
  refine bodyPost_ret (v := .tuple #[.agg #[.bool (resNeg z), .slice Ar (resDigs z).length cr], .bool (resOk z)]) (by simp [results, Try.results28, go_sem, u0, u1]) rfl ⟨Ar, cr, rfl, ?_, ?_⟩
  · have h6 := hbA.size
    have h8 := h.size
    (try simp at h6)
    exact ((hor.set_below (by show gr < _; first | omega | (simp; omega)) _).set_below (by show gr < _; first | omega | (simp; omega)) _).le (by first | omega | (simp; omega))
  · exact ((KB.out _ hSB).setCell hgr _).setCell hgr _

theorem lawMultiplyWholes_any (neg0 : Bool) (A0 : Option Addr) (n0 c0 : Nat) (xs0 : List Int) (neg1 : Bool) (A1 : Option Addr) (n1 c1 : Nat) (xs1 : List Int) (w : World) (hm0 : n0 ≤ 9223372036854775807) (hr0 : Rd w w.heap.size A0 n0 xs0) (hm1 : n1 ≤ 9223372036854775807) (hr1 : Rd w w.heap.size A1 n1 xs1) :
    Calls Try.prog 7 #[.agg #[.bool neg0, .slice A0 n0 c0], .agg #[.bool neg1, .slice A1 n1 c1]] w fun e w' => e = .returned (.bool true) ∧ Below w.heap.size w w' := by
  by_cases hg0 : Good neg0 xs0
  · by_cases hg1 : Good neg1 xs1
    · exact lawMultiplyWholes_core neg0 A0 n0 c0 xs0 neg1 A1 n1 c1 xs1 w hm0 hr0 hm1 hr1 _ _ (resDigs_len _) _ (fun h0 h1 A0 c0 A1 c1 w r0 _ r1 _ => muS_yes neg0 A0 c0 xs0 neg1 A1 c1 xs1 w h0 r0 h1 r1 hg0 hg1 (num neg0 xs0 * num neg1 xs1) rfl) (fun h0 h1 A0 c0 A1 c1 w r0 _ r1 _ => muI_yes neg0 A0 c0 xs0 neg1 A1 c1 xs1 w h0 r0 h1 r1 hg0 hg1 (num neg0 xs0 * num neg1 xs1) rfl)
    · exact lawMultiplyWholes_core neg0 A0 n0 c0 xs0 neg1 A1 n1 c1 xs1 w hm0 hr0 hm1 hr1 _ _ (by simp) _ (fun h0 h1 A0 c0 A1 c1 w r0 _ r1 _ => muS_no2 neg0 A0 c0 xs0 neg1 A1 c1 xs1 w h0 r0 h1 r1 hg0 hg1) (fun h0 h1 A0 c0 A1 c1 w r0 _ r1 _ => muI_no2 neg0 A0 c0 xs0 neg1 A1 c1 xs1 w h0 r0 h1 r1 hg0 hg1)
  · exact lawMultiplyWholes_core neg0 A0 n0 c0 xs0 neg1 A1 n1 c1 xs1 w hm0 hr0 hm1 hr1 _ _ (by simp) _ (fun h0 h1 A0 c0 A1 c1 w r0 _ r1 _ => muS_no1 neg0 A0 c0 xs0 neg1 A1 c1 xs1 w h0 r0 h1 r1 hg0) (fun h0 h1 A0 c0 A1 c1 w r0 _ r1 _ => muI_no1 neg0 A0 c0 xs0 neg1 A1 c1 xs1 w h0 r0 h1 r1 hg0)
end Go.Proofs.Ytlkdelhmjjnnnaa
