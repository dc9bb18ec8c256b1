/- SquareRootOf: the model's and the program's, and the law (written by wip/gen/frsqrt.py). -/
import Derived.Test.YtchglkcfolannabDoorFrRoot
import Derived.Deep.RegionHeld3
import Derived.Deep.DeepCutAuto
namespace Go.Proofs.YtchglkcfolannabDoor
open Go.RowKit Go.Joins

theorem cell_apart2 {g : Nat} (W : World) (i j : Nat) (u v : Value) (k : Nat) : ((W.setCell ⟨g + 1, i, none⟩ u).setCell ⟨g + 1, j, none⟩ v).cell? ⟨g, k, none⟩ = W.cell? ⟨g, k, none⟩ := by
  rw [World.cell?_setCell_far _ _ _ _ (by simp), World.cell?_setCell_far _ _ _ _ (by simp)]

set_option maxHeartbeats 1000000 in
theorem sqrtS_yes (n d A C : Nat) (w : World) (g0 : FrG n d) (hA : Root A n) (hC : Root C d) (eA : A * A = n) (eC : C * C = d) : Calls Tryd.prog 13 #[.agg #[.int .i64 (n : Int), .int .i64 (d : Int)]] w (GivesFB w A C true) := by
  have g0' := g0
  obtain ⟨a1, a2, a3, a4, -⟩ := g0'
  have hn : n ≤ 1000000000 := by omega
  have hd : d ≤ 1000000000 := by omega
  clear a1 a2 a3 a4
  have h := Below.refl w.heap.size w
  have hA := below_alloc1 w (.cells #[.int .i64 (n : Int), .int .i64 (d : Int)] 24)
  replace h := Below.step h hA
  have hx0 := Box.new w 24 #[.int .i64 (n : Int), .int .i64 (d : Int)]
  clear hA
  have hA := below_alloc1 (w.alloc (.cells #[.int .i64 (n : Int), .int .i64 (d : Int)] 24)) (.cells #[.int .i64 0, .int .i64 0] 24)
  replace h := Below.step h hA
  replace hx0 := hx0.kept hA
  have hxr := Box.new (w.alloc (.cells #[.int .i64 (n : Int), .int .i64 (d : Int)] 24)) 24 #[.int .i64 0, .int .i64 0]
  rw [show (w.alloc (.cells #[.int .i64 (n : Int), .int .i64 (d : Int)] 24)).heap.size = w.heap.size + 1 from by simp] at hxr
  clear hA
  have cP := fun W => frRoot_any n W hn A hA
  have cQ := fun W => frRoot_any d W hd C hC
  have sP := fun W => frSquare_yes n A W hn eA
  have sQ := fun W => frSquare_yes d C W hd eC
  replace cP := Lib.hid cP
  replace cQ := Lib.hid cQ
  replace sP := Lib.hid sP
  replace sQ := Lib.hid sQ
  clear hA hC eA eC
  go_enter Tryd.func13, Tryd.ntmps13
  go_wp2_with fail
  refine (frGood_yes _ _ _ g0).mono ?_
  rintro e w1 ⟨rfl, hb⟩
  replace h := Below.step h hb
  replace hx0 := hx0.kept hb
  replace hxr := hxr.kept hb
  clear hb
  obtain ⟨ahx0, bhx0⟩ := hx0.two
  have lhx0 := hx0.lt
  obtain ⟨ahxr, bhxr⟩ := hxr.two
  have lhxr := hxr.lt
  go_wp2_with fail
  refine (sP.out _).mono ?_
  rintro e w' ⟨rfl, rfl⟩
  go_wp2_with fail
  refine (sQ.out _).mono ?_
  rintro e w' ⟨rfl, rfl⟩
  have f0 := hxr.free 0
  have f1 := hxr.free 1
  go_upto_region 3 with fail
  have KS : ∀ (W : World) (i j : Nat) (u v : Value), (W.cell? ⟨w.heap.size, 0, none⟩ = some (.int .i64 (n : Int)) ∧ W.cell? ⟨w.heap.size, 1, none⟩ = some (.int .i64 (d : Int))) → (((W.setCell ⟨w.heap.size + 1, i, none⟩ u).setCell ⟨w.heap.size + 1, j, none⟩ v).cell? ⟨w.heap.size, 0, none⟩ = some (.int .i64 (n : Int)) ∧ ((W.setCell ⟨w.heap.size + 1, i, none⟩ u).setCell ⟨w.heap.size + 1, j, none⟩ v).cell? ⟨w.heap.size, 1, none⟩ = some (.int .i64 (d : Int))) := fun W i j u v ⟨h1, h2⟩ => ⟨(cell_apart2 W i j u v 0).trans h1, (cell_apart2 W i j u v 1).trans h2⟩
  have KD : ∀ (W : World) (i j : Nat) (u v : Value), (W.cell? ⟨w.heap.size, 0, none⟩ = some (.int .i64 (n : Int)) ∧ W.cell? ⟨w.heap.size, 1, none⟩ = some (.int .i64 (d : Int))) → (((W.setCell ⟨w.heap.size + 1, i, none⟩ u).setCell ⟨w.heap.size + 1, j, none⟩ v).drew.cell? ⟨w.heap.size, 0, none⟩ = some (.int .i64 (n : Int)) ∧ ((W.setCell ⟨w.heap.size + 1, i, none⟩ u).setCell ⟨w.heap.size + 1, j, none⟩ v).drew.cell? ⟨w.heap.size, 1, none⟩ = some (.int .i64 (d : Int))) := fun W i j u v hh => KS W i j u v hh
  have KM0 : w1.drew.cell? ⟨w.heap.size, 0, none⟩ = some (.int .i64 (n : Int)) ∧ w1.drew.cell? ⟨w.heap.size, 1, none⟩ = some (.int .i64 (d : Int)) := ⟨ahx0, bhx0⟩
  have KM00 : w1.cell? ⟨w.heap.size, 0, none⟩ = some (.int .i64 (n : Int)) ∧ w1.cell? ⟨w.heap.size, 1, none⟩ = some (.int .i64 (d : Int)) := ⟨ahx0, bhx0⟩
  replace KS := Lib.hid KS
  replace KD := Lib.hid KD
  go_region_held3 (fun w' => w'.cell? ⟨w.heap.size, 0, none⟩ = some (.int .i64 (n : Int)) ∧ w'.cell? ⟨w.heap.size, 1, none⟩ = some (.int .i64 (d : Int))) ((first | assumption | (refine KS.out _ _ _ _ _ ?_; assumption) | (refine KD.out _ _ _ _ _ ?_; assumption)))
    (first
      | (go_at_call 37; (with_reducible refine (cP.out _).mono ?_); rintro e w' ⟨rfl, rfl⟩)
      | (go_at_call 37; (with_reducible refine (cQ.out _).mono ?_); rintro e w' ⟨rfl, rfl⟩))
  go_wp2_with fail
  refine bodyPost_ret (v := .tuple #[.agg #[.int .i64 (A : Int), .int .i64 (C : Int)], .bool true]) (by simp [results, Tryd.results13, go_sem, ahxr, bhxr]) rfl ⟨rfl, ?_⟩
  first | exact (h.setCell (by first | (simp; done) | (simp; omega)) _).setCell (by first | (simp; done) | (simp; omega)) _ | exact Below.drewN' ((h.setCell (by first | (simp; done) | (simp; omega)) _).setCell (by first | (simp; done) | (simp; omega)) _) 1 | (trace_state; fail)

set_option maxHeartbeats 1000000 in
theorem sqrtS_no1 (n d A : Nat) (w : World) (g0 : FrG n d) (hA : Root A n) (eA : A * A ≠ n) : Calls Tryd.prog 13 #[.agg #[.int .i64 (n : Int), .int .i64 (d : Int)]] w (GivesFB w 0 0 false) := by
  have g0' := g0
  obtain ⟨a1, a2, a3, a4, -⟩ := g0'
  have hn : n ≤ 1000000000 := by omega
  clear a1 a2 a3 a4
  have h := Below.refl w.heap.size w
  have hA := below_alloc1 w (.cells #[.int .i64 (n : Int), .int .i64 (d : Int)] 24)
  replace h := Below.step h hA
  have hx0 := Box.new w 24 #[.int .i64 (n : Int), .int .i64 (d : Int)]
  clear hA
  have hA := below_alloc1 (w.alloc (.cells #[.int .i64 (n : Int), .int .i64 (d : Int)] 24)) (.cells #[.int .i64 0, .int .i64 0] 24)
  replace h := Below.step h hA
  replace hx0 := hx0.kept hA
  have hxr := Box.new (w.alloc (.cells #[.int .i64 (n : Int), .int .i64 (d : Int)] 24)) 24 #[.int .i64 0, .int .i64 0]
  rw [show (w.alloc (.cells #[.int .i64 (n : Int), .int .i64 (d : Int)] 24)).heap.size = w.heap.size + 1 from by simp] at hxr
  clear hA
  have sP := fun W => frSquare_no n A W hn hA eA
  replace sP := Lib.hid sP
  clear hA eA
  go_enter Tryd.func13, Tryd.ntmps13
  go_wp2_with fail
  refine (frGood_yes _ _ _ g0).mono ?_
  rintro e w1 ⟨rfl, hb⟩
  replace h := Below.step h hb
  replace hx0 := hx0.kept hb
  replace hxr := hxr.kept hb
  clear hb
  obtain ⟨ahx0, bhx0⟩ := hx0.two
  have lhx0 := hx0.lt
  obtain ⟨ahxr, bhxr⟩ := hxr.two
  have lhxr := hxr.lt
  go_wp2_with fail
  refine (sP.out _).mono ?_
  rintro e w' ⟨rfl, rfl⟩
  have f0 := hxr.free 0
  have f1 := hxr.free 1
  go_wp2_with fail
  refine bodyPost_ret (v := .tuple #[.agg #[.int .i64 0, .int .i64 0], .bool false]) (by simp [results, Tryd.results13, go_sem, ahxr, bhxr]) rfl ⟨rfl, ?_⟩
  exact (h.setCell (by first | (simp; done) | (simp; omega)) _).setCell (by first | (simp; done) | (simp; omega)) _

set_option maxHeartbeats 1000000 in
theorem sqrtS_no2 (n d A C : Nat) (w : World) (g0 : FrG n d) (eA : A * A = n) (hC : Root C d) (eC : C * C ≠ d) : Calls Tryd.prog 13 #[.agg #[.int .i64 (n : Int), .int .i64 (d : Int)]] w (GivesFB w 0 0 false) := by
  have g0' := g0
  obtain ⟨a1, a2, a3, a4, -⟩ := g0'
  have hn : n ≤ 1000000000 := by omega
  have hd : d ≤ 1000000000 := by omega
  clear a1 a2 a3 a4
  have h := Below.refl w.heap.size w
  have hA := below_alloc1 w (.cells #[.int .i64 (n : Int), .int .i64 (d : Int)] 24)
  replace h := Below.step h hA
  have hx0 := Box.new w 24 #[.int .i64 (n : Int), .int .i64 (d : Int)]
  clear hA
  have hA := below_alloc1 (w.alloc (.cells #[.int .i64 (n : Int), .int .i64 (d : Int)] 24)) (.cells #[.int .i64 0, .int .i64 0] 24)
  replace h := Below.step h hA
  replace hx0 := hx0.kept hA
  have hxr := Box.new (w.alloc (.cells #[.int .i64 (n : Int), .int .i64 (d : Int)] 24)) 24 #[.int .i64 0, .int .i64 0]
  rw [show (w.alloc (.cells #[.int .i64 (n : Int), .int .i64 (d : Int)] 24)).heap.size = w.heap.size + 1 from by simp] at hxr
  clear hA
  have sP := fun W => frSquare_yes n A W hn eA
  have sQ := fun W => frSquare_no d C W hd hC eC
  replace sP := Lib.hid sP
  replace sQ := Lib.hid sQ
  clear eA hC eC
  go_enter Tryd.func13, Tryd.ntmps13
  go_wp2_with fail
  refine (frGood_yes _ _ _ g0).mono ?_
  rintro e w1 ⟨rfl, hb⟩
  replace h := Below.step h hb
  replace hx0 := hx0.kept hb
  replace hxr := hxr.kept hb
  clear hb
  obtain ⟨ahx0, bhx0⟩ := hx0.two
  have lhx0 := hx0.lt
  obtain ⟨ahxr, bhxr⟩ := hxr.two
  have lhxr := hxr.lt
  go_wp2_with fail
  refine (sP.out _).mono ?_
  rintro e w' ⟨rfl, rfl⟩
  go_wp2_with fail
  refine (sQ.out _).mono ?_
  rintro e w' ⟨rfl, rfl⟩
  have f0 := hxr.free 0
  have f1 := hxr.free 1
  go_wp2_with fail
  refine bodyPost_ret (v := .tuple #[.agg #[.int .i64 0, .int .i64 0], .bool false]) (by simp [results, Tryd.results13, go_sem, ahxr, bhxr]) rfl ⟨rfl, ?_⟩
  exact (h.setCell (by first | (simp; done) | (simp; omega)) _).setCell (by first | (simp; done) | (simp; omega)) _

set_option maxHeartbeats 1000000 in
theorem sqrtS_bad (p0 q0 : Int) (w : World) (g0 : ¬ FrG p0 q0) : Calls Tryd.prog 13 #[.agg #[.int .i64 p0, .int .i64 q0]] w (GivesFB w 0 0 false) := by
  have h := Below.refl w.heap.size w
  have hA := below_alloc1 w (.cells #[.int .i64 p0, .int .i64 q0] 24)
  replace h := Below.step h hA
  have hx0 := Box.new w 24 #[.int .i64 p0, .int .i64 q0]
  clear hA
  have hA := below_alloc1 (w.alloc (.cells #[.int .i64 p0, .int .i64 q0] 24)) (.cells #[.int .i64 0, .int .i64 0] 24)
  replace h := Below.step h hA
  replace hx0 := hx0.kept hA
  have hxr := Box.new (w.alloc (.cells #[.int .i64 p0, .int .i64 q0] 24)) 24 #[.int .i64 0, .int .i64 0]
  rw [show (w.alloc (.cells #[.int .i64 p0, .int .i64 q0] 24)).heap.size = w.heap.size + 1 from by simp] at hxr
  clear hA
  go_enter Tryd.func13, Tryd.ntmps13
  go_wp2_with fail
  refine (frGood_no p0 q0 _ g0).mono ?_
  rintro e w1 ⟨rfl, hb⟩
  replace h := Below.step h hb
  replace hx0 := hx0.kept hb
  replace hxr := hxr.kept hb
  clear hb
  obtain ⟨ahx0, bhx0⟩ := hx0.two
  have lhx0 := hx0.lt
  obtain ⟨ahxr, bhxr⟩ := hxr.two
  have lhxr := hxr.lt
  have f0 := hxr.free 0
  have f1 := hxr.free 1
  go_wp2_with fail
  refine bodyPost_ret (v := .tuple #[.agg #[.int .i64 (0), .int .i64 (0)], .bool false]) (by simp [results, Tryd.results13, go_sem, ahxr, bhxr]) rfl ⟨rfl, ?_⟩
  exact (h.setCell (by first | (simp; done) | (simp; omega)) _).setCell (by first | (simp; done) | (simp; omega)) _

set_option maxHeartbeats 1000000 in
theorem sqrtS_neg (p0 q0 : Int) (w : World) (g0 : FrG p0 q0) (hneg : p0 < 0) : Calls Tryd.prog 13 #[.agg #[.int .i64 p0, .int .i64 q0]] w (GivesFB w 0 0 false) := by
  have h := Below.refl w.heap.size w
  have hA := below_alloc1 w (.cells #[.int .i64 p0, .int .i64 q0] 24)
  replace h := Below.step h hA
  have hx0 := Box.new w 24 #[.int .i64 p0, .int .i64 q0]
  clear hA
  have hA := below_alloc1 (w.alloc (.cells #[.int .i64 p0, .int .i64 q0] 24)) (.cells #[.int .i64 0, .int .i64 0] 24)
  replace h := Below.step h hA
  replace hx0 := hx0.kept hA
  have hxr := Box.new (w.alloc (.cells #[.int .i64 p0, .int .i64 q0] 24)) 24 #[.int .i64 0, .int .i64 0]
  rw [show (w.alloc (.cells #[.int .i64 p0, .int .i64 q0] 24)).heap.size = w.heap.size + 1 from by simp] at hxr
  clear hA
  go_enter Tryd.func13, Tryd.ntmps13
  go_wp2_with fail
  refine (frGood_yes p0 q0 _ g0).mono ?_
  rintro e w1 ⟨rfl, hb⟩
  replace h := Below.step h hb
  replace hx0 := hx0.kept hb
  replace hxr := hxr.kept hb
  clear hb
  obtain ⟨ahx0, bhx0⟩ := hx0.two
  have lhx0 := hx0.lt
  obtain ⟨ahxr, bhxr⟩ := hxr.two
  have lhxr := hxr.lt
  have f0 := hxr.free 0
  have f1 := hxr.free 1
  go_wp2_with fail
  refine bodyPost_ret (v := .tuple #[.agg #[.int .i64 (0), .int .i64 (0)], .bool false]) (by simp [results, Tryd.results13, go_sem, ahxr, bhxr]) rfl ⟨rfl, ?_⟩
  exact (h.setCell (by first | (simp; done) | (simp; omega)) _).setCell (by first | (simp; done) | (simp; omega)) _

set_option maxHeartbeats 1000000 in
theorem sqrtI_bad (p0 q0 : Int) (w : World) (hL : Lim w) (g0 : ¬ FrG p0 q0) : Calls Tryd.prog 12 #[.agg #[.int .i64 p0, .int .i64 q0]] w (GivesFB w 0 0 false) := by
  have h := Below.refl w.heap.size w
  have hA := below_alloc1 w (.cells #[.int .i64 p0, .int .i64 q0] 24)
  replace h := Below.step h hA
  have hx0 := Box.new w 24 #[.int .i64 p0, .int .i64 q0]
  clear hA
  have hA := below_alloc1 (w.alloc (.cells #[.int .i64 p0, .int .i64 q0] 24)) (.cells #[.int .i64 0, .int .i64 0] 24)
  replace h := Below.step h hA
  replace hx0 := hx0.kept hA
  have hxr := Box.new (w.alloc (.cells #[.int .i64 p0, .int .i64 q0] 24)) 24 #[.int .i64 0, .int .i64 0]
  rw [show (w.alloc (.cells #[.int .i64 p0, .int .i64 q0] 24)).heap.size = w.heap.size + 1 from by simp] at hxr
  clear hA
  go_enter Tryd.func12, Tryd.ntmps12
  go_wp2_with fail
  refine (isFractionI_no p0 q0 _ (by exact hL.kept h) g0).mono ?_
  rintro e w1 ⟨rfl, hb⟩
  replace h := Below.step h hb
  replace hx0 := hx0.kept hb
  replace hxr := hxr.kept hb
  clear hb
  obtain ⟨ahx0, bhx0⟩ := hx0.two
  have lhx0 := hx0.lt
  obtain ⟨ahxr, bhxr⟩ := hxr.two
  have lhxr := hxr.lt
  have f0 := hxr.free 0
  have f1 := hxr.free 1
  go_wp2_with fail
  refine bodyPost_ret (v := .tuple #[.agg #[.int .i64 (0), .int .i64 (0)], .bool false]) (by simp [results, Tryd.results12, go_sem, ahxr, bhxr]) rfl ⟨rfl, ?_⟩
  exact (h.setCell (by first | (simp; done) | (simp; omega)) _).setCell (by first | (simp; done) | (simp; omega)) _

set_option maxHeartbeats 1000000 in
theorem sqrtI_neg (p0 q0 : Int) (w : World) (hL : Lim w) (g0 : FrG p0 q0) (hneg : p0 < 0) : Calls Tryd.prog 12 #[.agg #[.int .i64 p0, .int .i64 q0]] w (GivesFB w 0 0 false) := by
  have h := Below.refl w.heap.size w
  have hA := below_alloc1 w (.cells #[.int .i64 p0, .int .i64 q0] 24)
  replace h := Below.step h hA
  have hx0 := Box.new w 24 #[.int .i64 p0, .int .i64 q0]
  clear hA
  have hA := below_alloc1 (w.alloc (.cells #[.int .i64 p0, .int .i64 q0] 24)) (.cells #[.int .i64 0, .int .i64 0] 24)
  replace h := Below.step h hA
  replace hx0 := hx0.kept hA
  have hxr := Box.new (w.alloc (.cells #[.int .i64 p0, .int .i64 q0] 24)) 24 #[.int .i64 0, .int .i64 0]
  rw [show (w.alloc (.cells #[.int .i64 p0, .int .i64 q0] 24)).heap.size = w.heap.size + 1 from by simp] at hxr
  clear hA
  go_enter Tryd.func12, Tryd.ntmps12
  go_wp2_with fail
  refine (isFractionI_yes p0 q0 _ (by exact hL.kept h) g0).mono ?_
  rintro e w1 ⟨rfl, hb⟩
  replace h := Below.step h hb
  replace hx0 := hx0.kept hb
  replace hxr := hxr.kept hb
  clear hb
  obtain ⟨ahx0, bhx0⟩ := hx0.two
  have lhx0 := hx0.lt
  obtain ⟨ahxr, bhxr⟩ := hxr.two
  have lhxr := hxr.lt
  have f0 := hxr.free 0
  have f1 := hxr.free 1
  go_wp2_with fail
  refine bodyPost_ret (v := .tuple #[.agg #[.int .i64 (0), .int .i64 (0)], .bool false]) (by simp [results, Tryd.results12, go_sem, ahxr, bhxr]) rfl ⟨rfl, ?_⟩
  exact (h.setCell (by first | (simp; done) | (simp; omega)) _).setCell (by first | (simp; done) | (simp; omega)) _

set_option maxHeartbeats 1000000 in
theorem sqrtI_yes (n d A C : Nat) (w : World) (hL : Lim w) (g0 : FrG n d) (hA : Root A n) (hC : Root C d) (eA : ((A : Int) * A == n) = true) (eC : ((C : Int) * C == d) = true) : Calls Tryd.prog 12 #[.agg #[.int .i64 (n : Int), .int .i64 (d : Int)]] w (GivesFB w A C true) := by
  have g0' := g0
  obtain ⟨a1, a2, a3, a4, -⟩ := g0'
  have hn : n ≤ 1000000000 := by omega
  have hd : d ≤ 1000000000 := by omega
  clear a1 a2 a3 a4
  have h := Below.refl w.heap.size w
  have hA := below_alloc1 w (.cells #[.int .i64 (n : Int), .int .i64 (d : Int)] 24)
  replace h := Below.step h hA
  have hx0 := Box.new w 24 #[.int .i64 (n : Int), .int .i64 (d : Int)]
  clear hA
  have hA := below_alloc1 (w.alloc (.cells #[.int .i64 (n : Int), .int .i64 (d : Int)] 24)) (.cells #[.int .i64 0, .int .i64 0] 24)
  replace h := Below.step h hA
  replace hx0 := hx0.kept hA
  have hxr := Box.new (w.alloc (.cells #[.int .i64 (n : Int), .int .i64 (d : Int)] 24)) 24 #[.int .i64 0, .int .i64 0]
  rw [show (w.alloc (.cells #[.int .i64 (n : Int), .int .i64 (d : Int)] 24)).heap.size = w.heap.size + 1 from by simp] at hxr
  clear hA
  have cP := fun W => exactRoot_any n W hn A hA _ eA
  have cQ := fun W => exactRoot_any d W hd C hC _ eC
  replace cP := Lib.hid cP
  replace cQ := Lib.hid cQ
  clear hA hC eA eC
  have hn0 : ¬ (n : Int) < 0 := by omega
  go_enter Tryd.func12, Tryd.ntmps12
  go_wp2_with fail
  refine (isFractionI_yes _ _ _ (by exact hL.kept h) g0).mono ?_
  rintro e w1 ⟨rfl, hb⟩
  replace h := Below.step h hb
  replace hx0 := hx0.kept hb
  replace hxr := hxr.kept hb
  clear hb
  obtain ⟨ahx0, bhx0⟩ := hx0.two
  have lhx0 := hx0.lt
  obtain ⟨ahxr, bhxr⟩ := hxr.two
  have lhxr := hxr.lt
  go_wp2_with fail
  refine (cP.out _).mono ?_
  rintro e w' ⟨rfl, rfl⟩
  go_wp2_with fail
  refine (cQ.out _).mono ?_
  rintro e w' ⟨rfl, rfl⟩
  have f0 := hxr.free 0
  have f1 := hxr.free 1
  go_wp2_with fail
  refine bodyPost_ret (v := .tuple #[.agg #[.int .i64 (A : Int), .int .i64 (C : Int)], .bool true]) (by simp [results, Tryd.results12, go_sem, ahxr, bhxr]) rfl ⟨rfl, ?_⟩
  exact (h.setCell (by first | (simp; done) | (simp; omega)) _).setCell (by first | (simp; done) | (simp; omega)) _

set_option maxHeartbeats 1000000 in
theorem sqrtI_no1 (n d A C : Nat) (B : Bool) (w : World) (hL : Lim w) (g0 : FrG n d) (hA : Root A n) (hC : Root C d) (eA : ((A : Int) * A == n) = false) (eC : ((C : Int) * C == d) = B) : Calls Tryd.prog 12 #[.agg #[.int .i64 (n : Int), .int .i64 (d : Int)]] w (GivesFB w 0 0 false) := by
  have g0' := g0
  obtain ⟨a1, a2, a3, a4, -⟩ := g0'
  have hn : n ≤ 1000000000 := by omega
  have hd : d ≤ 1000000000 := by omega
  clear a1 a2 a3 a4
  have h := Below.refl w.heap.size w
  have hA := below_alloc1 w (.cells #[.int .i64 (n : Int), .int .i64 (d : Int)] 24)
  replace h := Below.step h hA
  have hx0 := Box.new w 24 #[.int .i64 (n : Int), .int .i64 (d : Int)]
  clear hA
  have hA := below_alloc1 (w.alloc (.cells #[.int .i64 (n : Int), .int .i64 (d : Int)] 24)) (.cells #[.int .i64 0, .int .i64 0] 24)
  replace h := Below.step h hA
  replace hx0 := hx0.kept hA
  have hxr := Box.new (w.alloc (.cells #[.int .i64 (n : Int), .int .i64 (d : Int)] 24)) 24 #[.int .i64 0, .int .i64 0]
  rw [show (w.alloc (.cells #[.int .i64 (n : Int), .int .i64 (d : Int)] 24)).heap.size = w.heap.size + 1 from by simp] at hxr
  clear hA
  have cP := fun W => exactRoot_any n W hn A hA _ eA
  have cQ := fun W => exactRoot_any d W hd C hC _ eC
  replace cP := Lib.hid cP
  replace cQ := Lib.hid cQ
  clear hA hC eA eC
  have hn0 : ¬ (n : Int) < 0 := by omega
  go_enter Tryd.func12, Tryd.ntmps12
  go_wp2_with fail
  refine (isFractionI_yes _ _ _ (by exact hL.kept h) g0).mono ?_
  rintro e w1 ⟨rfl, hb⟩
  replace h := Below.step h hb
  replace hx0 := hx0.kept hb
  replace hxr := hxr.kept hb
  clear hb
  obtain ⟨ahx0, bhx0⟩ := hx0.two
  have lhx0 := hx0.lt
  obtain ⟨ahxr, bhxr⟩ := hxr.two
  have lhxr := hxr.lt
  go_wp2_with fail
  refine (cP.out _).mono ?_
  rintro e w' ⟨rfl, rfl⟩
  go_wp2_with fail
  refine (cQ.out _).mono ?_
  rintro e w' ⟨rfl, rfl⟩
  have f0 := hxr.free 0
  have f1 := hxr.free 1
  go_wp2_with fail
  refine bodyPost_ret (v := .tuple #[.agg #[.int .i64 (0 : Int), .int .i64 (0 : Int)], .bool false]) (by simp [results, Tryd.results12, go_sem, ahxr, bhxr]) rfl ⟨rfl, ?_⟩
  exact (h.setCell (by first | (simp; done) | (simp; omega)) _).setCell (by first | (simp; done) | (simp; omega)) _

set_option maxHeartbeats 1000000 in
theorem sqrtI_no2 (n d A C : Nat) (w : World) (hL : Lim w) (g0 : FrG n d) (hA : Root A n) (hC : Root C d) (eA : ((A : Int) * A == n) = true) (eC : ((C : Int) * C == d) = false) : Calls Tryd.prog 12 #[.agg #[.int .i64 (n : Int), .int .i64 (d : Int)]] w (GivesFB w 0 0 false) := by
  have g0' := g0
  obtain ⟨a1, a2, a3, a4, -⟩ := g0'
  have hn : n ≤ 1000000000 := by omega
  have hd : d ≤ 1000000000 := by omega
  clear a1 a2 a3 a4
  have h := Below.refl w.heap.size w
  have hA := below_alloc1 w (.cells #[.int .i64 (n : Int), .int .i64 (d : Int)] 24)
  replace h := Below.step h hA
  have hx0 := Box.new w 24 #[.int .i64 (n : Int), .int .i64 (d : Int)]
  clear hA
  have hA := below_alloc1 (w.alloc (.cells #[.int .i64 (n : Int), .int .i64 (d : Int)] 24)) (.cells #[.int .i64 0, .int .i64 0] 24)
  replace h := Below.step h hA
  replace hx0 := hx0.kept hA
  have hxr := Box.new (w.alloc (.cells #[.int .i64 (n : Int), .int .i64 (d : Int)] 24)) 24 #[.int .i64 0, .int .i64 0]
  rw [show (w.alloc (.cells #[.int .i64 (n : Int), .int .i64 (d : Int)] 24)).heap.size = w.heap.size + 1 from by simp] at hxr
  clear hA
  have cP := fun W => exactRoot_any n W hn A hA _ eA
  have cQ := fun W => exactRoot_any d W hd C hC _ eC
  replace cP := Lib.hid cP
  replace cQ := Lib.hid cQ
  clear hA hC eA eC
  have hn0 : ¬ (n : Int) < 0 := by omega
  go_enter Tryd.func12, Tryd.ntmps12
  go_wp2_with fail
  refine (isFractionI_yes _ _ _ (by exact hL.kept h) g0).mono ?_
  rintro e w1 ⟨rfl, hb⟩
  replace h := Below.step h hb
  replace hx0 := hx0.kept hb
  replace hxr := hxr.kept hb
  clear hb
  obtain ⟨ahx0, bhx0⟩ := hx0.two
  have lhx0 := hx0.lt
  obtain ⟨ahxr, bhxr⟩ := hxr.two
  have lhxr := hxr.lt
  go_wp2_with fail
  refine (cP.out _).mono ?_
  rintro e w' ⟨rfl, rfl⟩
  go_wp2_with fail
  refine (cQ.out _).mono ?_
  rintro e w' ⟨rfl, rfl⟩
  have f0 := hxr.free 0
  have f1 := hxr.free 1
  go_wp2_with fail
  refine bodyPost_ret (v := .tuple #[.agg #[.int .i64 (0 : Int), .int .i64 (0 : Int)], .bool false]) (by simp [results, Tryd.results12, go_sem, ahxr, bhxr]) rfl ⟨rfl, ?_⟩
  exact (h.setCell (by first | (simp; done) | (simp; omega)) _).setCell (by first | (simp; done) | (simp; omega)) _

theorem sq_beq {a n : Nat} : ((a : Int) * a == n) = decide (a * a = n) := by
  have h : ((a * a : Nat) : Int) = (a : Int) * a := Int.natCast_mul a a
  rw [Bool.eq_iff_iff, beq_iff_eq, decide_eq_true_eq, ← h]
  omega
end Go.Proofs.YtchglkcfolannabDoor
