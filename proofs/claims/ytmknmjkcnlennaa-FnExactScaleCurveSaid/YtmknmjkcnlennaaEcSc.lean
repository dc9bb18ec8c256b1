/- ScaleCurve of the model and of the program (written by wip/gen/ecsc.py). -/
import Derived.Test.YtmknmjkcnlennaaEcS
import Derived.Test.YtmknmjkcnlennaaEcI
namespace Go.Proofs.Ytmknmjkcnlennaa
open Go.RowKit Go.Joins

theorem ecSc_bd {a b u : Int} (ha : -1000 ≤ a ∧ a ≤ 1000) (hb : -10000 ≤ b ∧ b ≤ 10000) (hu : 1 ≤ u ∧ u ≤ 5) :
    (-1000000000 ≤ a * u ∧ a * u ≤ 1000000000) ∧ (-1000000000 ≤ a * u * u ∧ a * u * u ≤ 1000000000) ∧ (-1000000000 ≤ a * u * u * u ∧ a * u * u * u ≤ 1000000000) ∧ (-1000000000 ≤ a * u * u * u * u ∧ a * u * u * u * u ≤ 1000000000) ∧
    (-1000000000 ≤ b * u ∧ b * u ≤ 1000000000) ∧ (-1000000000 ≤ b * u * u ∧ b * u * u ≤ 1000000000) ∧ (-1000000000 ≤ b * u * u * u ∧ b * u * u * u ≤ 1000000000) ∧ (-1000000000 ≤ b * u * u * u * u ∧ b * u * u * u * u ≤ 1000000000) ∧ (-1000000000 ≤ b * u * u * u * u * u ∧ b * u * u * u * u * u ≤ 1000000000) ∧ (-1000000000 ≤ b * u * u * u * u * u * u ∧ b * u * u * u * u * u * u ≤ 1000000000) := by
  rcases (show u = 1 ∨ u = 2 ∨ u = 3 ∨ u = 4 ∨ u = 5 by omega) with rfl | rfl | rfl | rfl | rfl <;> omega
theorem ecSq_bd {u : Int} (hu : 1 ≤ u ∧ u ≤ 5) : (1 ≤ u * u ∧ u * u ≤ 25) ∧ (1 ≤ u * u * (u * u) ∧ u * u * (u * u) ≤ 625) ∧ (1 ≤ u * u * (u * u) * (u * u) ∧ u * u * (u * u) * (u * u) ≤ 15625) := by
  rcases (show u = 1 ∨ u = 2 ∨ u = 3 ∨ u = 4 ∨ u = 5 by omega) with rfl | rfl | rfl | rfl | rfl <;> omega
theorem ecSc_A (a u : Int) : a * (u * u * (u * u)) = a * u * u * u * u := by grind
theorem ecSc_B (b u : Int) : b * (u * u * (u * u) * (u * u)) = b * u * u * u * u * u * u := by grind

set_option maxHeartbeats 1000000 in
theorem scalesFor_any (u P Q : Int) (w : World) (hu : 1 ≤ u ∧ u ≤ 5) (hP : u * u * (u * u) = P) (hQ : u * u * (u * u) * (u * u) = Q) : Calls Try.prog 44 #[.int .i64 u] w (fun e w' => e = .returned (.tuple #[.int .i64 P, .int .i64 Q]) ∧ w = w') := by
  obtain ⟨⟨p1, p2⟩, ⟨p3, p4⟩, ⟨p5, p6⟩⟩ := ecSq_bd hu
  replace hP := Lib.hid hP
  replace hQ := Lib.hid hQ
  have h := Below.refl w.heap.size w
  go_enter Try.func44, Try.ntmps44
  go_wp2_with fail
  rw [hQ.out, hP.out]
  go_ret2
  exact ⟨rfl, rfl⟩


set_option maxHeartbeats 2000000 in
theorem scaleS_yes (a b u : Int) (w : World) (g : EcG a b) (hu : 1 ≤ u ∧ u ≤ 5) (g2 : EcG (a * u * u * u * u) (b * u * u * u * u * u * u)) : Calls Try.prog 20 #[.agg #[.int .i64 a, .int .i64 b], .int .i64 u] w (GivesFB w (a * u * u * u * u) (b * u * u * u * u * u * u) true) := by
  have g' := g
  obtain ⟨⟨a1, a2⟩, ⟨b1, b2⟩, -⟩ := g'
  obtain ⟨⟨p1, p2⟩, ⟨p3, p4⟩, ⟨p5, p6⟩, ⟨p7, p8⟩, ⟨q1, q2⟩, ⟨q3, q4⟩, ⟨q5, q6⟩, ⟨q7, q8⟩, ⟨r1, r2⟩, ⟨r3, r4⟩⟩ := ecSc_bd ⟨a1, a2⟩ ⟨b1, b2⟩ hu
  obtain ⟨u1, u2⟩ := hu
  have h := Below.refl w.heap.size w
  have hA := below_alloc1 w (.cells #[.int .i64 a, .int .i64 b] 25)
  have hx0 := Box.new w 25 #[.int .i64 a, .int .i64 b]
  replace h := Below.step h hA
  clear hA
  have hA := below_alloc1 (w.alloc (.cells #[.int .i64 a, .int .i64 b] 25)) (.cells #[.int .i64 0, .int .i64 0] 25)
  have hxr := Box.new (w.alloc (.cells #[.int .i64 a, .int .i64 b] 25)) 25 #[.int .i64 0, .int .i64 0]
  rw [show (w.alloc (.cells #[.int .i64 a, .int .i64 b] 25)).heap.size = w.heap.size + 1 from by simp] at hxr
  replace h := Below.step h hA
  replace hx0 := hx0.kept hA
  clear hA
  obtain ⟨k00, k01⟩ := hx0.two
  have l0 := hx0.lt
  obtain ⟨kr0, kr1⟩ := hxr.two
  have lr := hxr.lt
  go_enter Try.func20, Try.ntmps20
  go_wp2_with fail
  refine (ecGood_yes a b _ g).mono ?_
  rintro e w1 ⟨rfl, hb⟩
  replace h := Below.step h hb
  replace hx0 := hx0.kept hb
  replace hxr := hxr.kept hb
  clear hb k00 k01 l0 kr0 kr1 lr
  obtain ⟨k00, k01⟩ := hx0.two
  have l0 := hx0.lt
  obtain ⟨kr0, kr1⟩ := hxr.two
  have lr := hxr.lt
  go_wp2_with fail
  refine (l1In_yes u 1 5 _ u1 u2).mono ?_
  rintro e w2 ⟨rfl, rfl⟩
  go_wp2_with fail
  have hA := below_alloc1 w1 (.cells #[.int .i64 (a * u * u * u * u), .int .i64 (b * u * u * u * u * u * u)] 25)
  have hxv := Box.new w1 25 #[.int .i64 (a * u * u * u * u), .int .i64 (b * u * u * u * u * u * u)]
  replace h := Below.step h hA
  replace hx0 := hx0.kept hA
  replace hxr := hxr.kept hA
  clear hA k00 k01 l0 kr0 kr1 lr
  generalize w1.alloc (.cells #[.int .i64 (a * u * u * u * u), .int .i64 (b * u * u * u * u * u * u)] 25) = w3 at *
  generalize w1.heap.size = gv at hxv ⊢
  obtain ⟨k00, k01⟩ := hx0.two
  have l0 := hx0.lt
  obtain ⟨kr0, kr1⟩ := hxr.two
  have lr := hxr.lt
  obtain ⟨kv0, kv1⟩ := hxv.two
  have lv := hxv.lt
  refine (ecGood_yes (a * u * u * u * u) (b * u * u * u * u * u * u) _ g2).mono ?_
  rintro e w4 ⟨rfl, hb⟩
  replace h := Below.step h hb
  replace hx0 := hx0.kept hb
  replace hxr := hxr.kept hb
  replace hxv := hxv.kept hb
  clear hb k00 k01 l0 kr0 kr1 lr kv0 kv1 lv
  obtain ⟨k00, k01⟩ := hx0.two
  have l0 := hx0.lt
  obtain ⟨kr0, kr1⟩ := hxr.two
  have lr := hxr.lt
  obtain ⟨kv0, kv1⟩ := hxv.two
  have lv := hxv.lt
  have fr0 := hxr.free 0
  have fr1 := hxr.free 1
  obtain ⟨sr0, sr1⟩ := ((hxr.set 0 (.int .i64 (a * u * u * u * u))).set 1 (.int .i64 (b * u * u * u * u * u * u))).two
  go_wp2_with fail
  refine bodyPost_ret (v := .tuple #[.agg #[.int .i64 (a * u * u * u * u), .int .i64 (b * u * u * u * u * u * u)], .bool true]) (by simp [results, Try.results20, go_sem, sr0, sr1]) (by rfl) ⟨by rfl, ?_⟩
  exact below_sets2 h (Nat.le_add_right _ _) _ _


set_option maxHeartbeats 2000000 in
theorem scaleS_no (a b u : Int) (w : World) (g : EcG a b) (hu : 1 ≤ u ∧ u ≤ 5) (g2 : ¬ EcG (a * u * u * u * u) (b * u * u * u * u * u * u)) : Calls Try.prog 20 #[.agg #[.int .i64 a, .int .i64 b], .int .i64 u] w (GivesFB w 0 0 false) := by
  have g' := g
  obtain ⟨⟨a1, a2⟩, ⟨b1, b2⟩, -⟩ := g'
  obtain ⟨⟨p1, p2⟩, ⟨p3, p4⟩, ⟨p5, p6⟩, ⟨p7, p8⟩, ⟨q1, q2⟩, ⟨q3, q4⟩, ⟨q5, q6⟩, ⟨q7, q8⟩, ⟨r1, r2⟩, ⟨r3, r4⟩⟩ := ecSc_bd ⟨a1, a2⟩ ⟨b1, b2⟩ hu
  obtain ⟨u1, u2⟩ := hu
  have h := Below.refl w.heap.size w
  have hA := below_alloc1 w (.cells #[.int .i64 a, .int .i64 b] 25)
  have hx0 := Box.new w 25 #[.int .i64 a, .int .i64 b]
  replace h := Below.step h hA
  clear hA
  have hA := below_alloc1 (w.alloc (.cells #[.int .i64 a, .int .i64 b] 25)) (.cells #[.int .i64 0, .int .i64 0] 25)
  have hxr := Box.new (w.alloc (.cells #[.int .i64 a, .int .i64 b] 25)) 25 #[.int .i64 0, .int .i64 0]
  rw [show (w.alloc (.cells #[.int .i64 a, .int .i64 b] 25)).heap.size = w.heap.size + 1 from by simp] at hxr
  replace h := Below.step h hA
  replace hx0 := hx0.kept hA
  clear hA
  obtain ⟨k00, k01⟩ := hx0.two
  have l0 := hx0.lt
  obtain ⟨kr0, kr1⟩ := hxr.two
  have lr := hxr.lt
  go_enter Try.func20, Try.ntmps20
  go_wp2_with fail
  refine (ecGood_yes a b _ g).mono ?_
  rintro e w1 ⟨rfl, hb⟩
  replace h := Below.step h hb
  replace hx0 := hx0.kept hb
  replace hxr := hxr.kept hb
  clear hb k00 k01 l0 kr0 kr1 lr
  obtain ⟨k00, k01⟩ := hx0.two
  have l0 := hx0.lt
  obtain ⟨kr0, kr1⟩ := hxr.two
  have lr := hxr.lt
  go_wp2_with fail
  refine (l1In_yes u 1 5 _ u1 u2).mono ?_
  rintro e w2 ⟨rfl, rfl⟩
  go_wp2_with fail
  have hA := below_alloc1 w1 (.cells #[.int .i64 (a * u * u * u * u), .int .i64 (b * u * u * u * u * u * u)] 25)
  have hxv := Box.new w1 25 #[.int .i64 (a * u * u * u * u), .int .i64 (b * u * u * u * u * u * u)]
  replace h := Below.step h hA
  replace hx0 := hx0.kept hA
  replace hxr := hxr.kept hA
  clear hA k00 k01 l0 kr0 kr1 lr
  generalize w1.alloc (.cells #[.int .i64 (a * u * u * u * u), .int .i64 (b * u * u * u * u * u * u)] 25) = w3 at *
  generalize w1.heap.size = gv at hxv ⊢
  obtain ⟨k00, k01⟩ := hx0.two
  have l0 := hx0.lt
  obtain ⟨kr0, kr1⟩ := hxr.two
  have lr := hxr.lt
  obtain ⟨kv0, kv1⟩ := hxv.two
  have lv := hxv.lt
  refine (ecGood_no (a * u * u * u * u) (b * u * u * u * u * u * u) _ g2).mono ?_
  rintro e w4 ⟨rfl, hb⟩
  replace h := Below.step h hb
  replace hx0 := hx0.kept hb
  replace hxr := hxr.kept hb
  replace hxv := hxv.kept hb
  clear hb k00 k01 l0 kr0 kr1 lr kv0 kv1 lv
  obtain ⟨k00, k01⟩ := hx0.two
  have l0 := hx0.lt
  obtain ⟨kr0, kr1⟩ := hxr.two
  have lr := hxr.lt
  obtain ⟨kv0, kv1⟩ := hxv.two
  have lv := hxv.lt
  have fr0 := hxr.free 0
  have fr1 := hxr.free 1
  obtain ⟨sr0, sr1⟩ := ((hxr.set 0 (.int .i64 0)).set 1 (.int .i64 0)).two
  go_wp2_with fail
  refine bodyPost_ret (v := .tuple #[.agg #[.int .i64 0, .int .i64 0], .bool false]) (by simp [results, Try.results20, go_sem, sr0, sr1]) (by rfl) ⟨by rfl, ?_⟩
  exact below_sets2 h (Nat.le_add_right _ _) _ _


set_option maxHeartbeats 1000000 in
theorem scaleS_out (a b u : Int) (w : World) (g : EcG a b) (hu : u < 1 ∨ 5 < u) : Calls Try.prog 20 #[.agg #[.int .i64 a, .int .i64 b], .int .i64 u] w (GivesFB w 0 0 false) := by
  have h := Below.refl w.heap.size w
  have hA := below_alloc1 w (.cells #[.int .i64 a, .int .i64 b] 25)
  have hx0 := Box.new w 25 #[.int .i64 a, .int .i64 b]
  replace h := Below.step h hA
  clear hA
  have hA := below_alloc1 (w.alloc (.cells #[.int .i64 a, .int .i64 b] 25)) (.cells #[.int .i64 0, .int .i64 0] 25)
  have hxr := Box.new (w.alloc (.cells #[.int .i64 a, .int .i64 b] 25)) 25 #[.int .i64 0, .int .i64 0]
  rw [show (w.alloc (.cells #[.int .i64 a, .int .i64 b] 25)).heap.size = w.heap.size + 1 from by simp] at hxr
  replace h := Below.step h hA
  replace hx0 := hx0.kept hA
  clear hA
  obtain ⟨k00, k01⟩ := hx0.two
  have l0 := hx0.lt
  obtain ⟨kr0, kr1⟩ := hxr.two
  have lr := hxr.lt
  replace hu := Lib.hid hu
  go_enter Try.func20, Try.ntmps20
  go_wp2_with fail
  refine (ecGood_yes a b _ g).mono ?_
  rintro e w1 ⟨rfl, hb⟩
  replace h := Below.step h hb
  replace hx0 := hx0.kept hb
  replace hxr := hxr.kept hb
  clear hb k00 k01 l0 kr0 kr1 lr
  obtain ⟨k00, k01⟩ := hx0.two
  have l0 := hx0.lt
  obtain ⟨kr0, kr1⟩ := hxr.two
  have lr := hxr.lt
  go_wp2_with fail
  refine (l1In_no u 1 5 _ hu.out).mono ?_
  rintro e w2 ⟨rfl, rfl⟩
  have fr0 := hxr.free 0
  have fr1 := hxr.free 1
  obtain ⟨sr0, sr1⟩ := ((hxr.set 0 (.int .i64 0)).set 1 (.int .i64 0)).two
  go_wp2_with fail
  refine bodyPost_ret (v := .tuple #[.agg #[.int .i64 0, .int .i64 0], .bool false]) (by simp [results, Try.results20, go_sem, sr0, sr1]) (by rfl) ⟨by rfl, ?_⟩
  exact below_sets2 h (Nat.le_add_right _ _) _ _


set_option maxHeartbeats 1000000 in
theorem scaleS_bad (a b u : Int) (w : World) (g : ¬ EcG a b) : Calls Try.prog 20 #[.agg #[.int .i64 a, .int .i64 b], .int .i64 u] w (GivesFB w 0 0 false) := by
  have h := Below.refl w.heap.size w
  have hA := below_alloc1 w (.cells #[.int .i64 a, .int .i64 b] 25)
  have hx0 := Box.new w 25 #[.int .i64 a, .int .i64 b]
  replace h := Below.step h hA
  clear hA
  have hA := below_alloc1 (w.alloc (.cells #[.int .i64 a, .int .i64 b] 25)) (.cells #[.int .i64 0, .int .i64 0] 25)
  have hxr := Box.new (w.alloc (.cells #[.int .i64 a, .int .i64 b] 25)) 25 #[.int .i64 0, .int .i64 0]
  rw [show (w.alloc (.cells #[.int .i64 a, .int .i64 b] 25)).heap.size = w.heap.size + 1 from by simp] at hxr
  replace h := Below.step h hA
  replace hx0 := hx0.kept hA
  clear hA
  obtain ⟨k00, k01⟩ := hx0.two
  have l0 := hx0.lt
  obtain ⟨kr0, kr1⟩ := hxr.two
  have lr := hxr.lt
  go_enter Try.func20, Try.ntmps20
  go_wp2_with fail
  refine (ecGood_no a b _ g).mono ?_
  rintro e w1 ⟨rfl, hb⟩
  replace h := Below.step h hb
  replace hx0 := hx0.kept hb
  replace hxr := hxr.kept hb
  clear hb k00 k01 l0 kr0 kr1 lr
  obtain ⟨k00, k01⟩ := hx0.two
  have l0 := hx0.lt
  obtain ⟨kr0, kr1⟩ := hxr.two
  have lr := hxr.lt
  have fr0 := hxr.free 0
  have fr1 := hxr.free 1
  obtain ⟨sr0, sr1⟩ := ((hxr.set 0 (.int .i64 0)).set 1 (.int .i64 0)).two
  go_wp2_with fail
  refine bodyPost_ret (v := .tuple #[.agg #[.int .i64 0, .int .i64 0], .bool false]) (by simp [results, Try.results20, go_sem, sr0, sr1]) (by rfl) ⟨by rfl, ?_⟩
  exact below_sets2 h (Nat.le_add_right _ _) _ _


set_option maxHeartbeats 2000000 in
theorem scaleI_yes (a b u P Q : Int) (w : World) (g : EcG a b) (hu : 1 ≤ u ∧ u ≤ 5) (hP : u * u * (u * u) = P) (hQ : u * u * (u * u) * (u * u) = Q) (g2 : EcG (a * P) (b * Q)) : Calls Try.prog 21 #[.agg #[.int .i64 a, .int .i64 b], .int .i64 u] w (GivesFB w (a * P) (b * Q) true) := by
  have g' := g
  obtain ⟨⟨a1, a2⟩, ⟨b1, b2⟩, -⟩ := g'
  have hPQ := ecSq_bd hu
  rw [hQ, hP] at hPQ
  have t1 := fr_mul_bd a1 a2 (show -1000 ≤ P by omega) (show P ≤ 1000 by omega)
  have t2 := fr_mul_bd b1 b2 (show -20000 ≤ Q by omega) (show Q ≤ 20000 by omega)
  have sf := fun W => scalesFor_any u P Q W hu hP hQ
  replace sf := Lib.hid sf
  clear hPQ hP hQ
  obtain ⟨u1, u2⟩ := hu
  have h := Below.refl w.heap.size w
  have hA := below_alloc1 w (.cells #[.int .i64 a, .int .i64 b] 25)
  have hx0 := Box.new w 25 #[.int .i64 a, .int .i64 b]
  replace h := Below.step h hA
  clear hA
  have hA := below_alloc1 (w.alloc (.cells #[.int .i64 a, .int .i64 b] 25)) (.cells #[.int .i64 0, .int .i64 0] 25)
  have hxr := Box.new (w.alloc (.cells #[.int .i64 a, .int .i64 b] 25)) 25 #[.int .i64 0, .int .i64 0]
  rw [show (w.alloc (.cells #[.int .i64 a, .int .i64 b] 25)).heap.size = w.heap.size + 1 from by simp] at hxr
  replace h := Below.step h hA
  replace hx0 := hx0.kept hA
  clear hA
  obtain ⟨k00, k01⟩ := hx0.two
  have l0 := hx0.lt
  obtain ⟨kr0, kr1⟩ := hxr.two
  have lr := hxr.lt
  go_enter Try.func21, Try.ntmps21
  go_wp2_with fail
  refine (isCurveI_yes a b _ g).mono ?_
  rintro e w1 ⟨rfl, hb⟩
  replace h := Below.step h hb
  replace hx0 := hx0.kept hb
  replace hxr := hxr.kept hb
  clear hb k00 k01 l0 kr0 kr1 lr
  obtain ⟨k00, k01⟩ := hx0.two
  have l0 := hx0.lt
  obtain ⟨kr0, kr1⟩ := hxr.two
  have lr := hxr.lt
  go_wp2_with fail
  refine (sf.out _).mono ?_
  rintro e w2 ⟨rfl, rfl⟩
  go_wp2_with fail
  have hA := below_alloc1 w1 (.cells #[.int .i64 (a * P), .int .i64 (b * Q)] 25)
  have hxv := Box.new w1 25 #[.int .i64 (a * P), .int .i64 (b * Q)]
  replace h := Below.step h hA
  replace hx0 := hx0.kept hA
  replace hxr := hxr.kept hA
  clear hA k00 k01 l0 kr0 kr1 lr
  generalize w1.alloc (.cells #[.int .i64 (a * P), .int .i64 (b * Q)] 25) = w3 at *
  generalize w1.heap.size = gv at hxv ⊢
  obtain ⟨k00, k01⟩ := hx0.two
  have l0 := hx0.lt
  obtain ⟨kr0, kr1⟩ := hxr.two
  have lr := hxr.lt
  obtain ⟨kv0, kv1⟩ := hxv.two
  have lv := hxv.lt
  refine (isCurveI_yes (a * P) (b * Q) _ g2).mono ?_
  rintro e w4 ⟨rfl, hb⟩
  replace h := Below.step h hb
  replace hx0 := hx0.kept hb
  replace hxr := hxr.kept hb
  replace hxv := hxv.kept hb
  clear hb k00 k01 l0 kr0 kr1 lr kv0 kv1 lv
  obtain ⟨k00, k01⟩ := hx0.two
  have l0 := hx0.lt
  obtain ⟨kr0, kr1⟩ := hxr.two
  have lr := hxr.lt
  obtain ⟨kv0, kv1⟩ := hxv.two
  have lv := hxv.lt
  have fr0 := hxr.free 0
  have fr1 := hxr.free 1
  obtain ⟨sr0, sr1⟩ := ((hxr.set 0 (.int .i64 (a * P))).set 1 (.int .i64 (b * Q))).two
  go_wp2_with fail
  refine bodyPost_ret (v := .tuple #[.agg #[.int .i64 (a * P), .int .i64 (b * Q)], .bool true]) (by simp [results, Try.results21, go_sem, sr0, sr1]) (by rfl) ⟨by rfl, ?_⟩
  exact below_sets2 h (Nat.le_add_right _ _) _ _


set_option maxHeartbeats 2000000 in
theorem scaleI_no (a b u P Q : Int) (w : World) (g : EcG a b) (hu : 1 ≤ u ∧ u ≤ 5) (hP : u * u * (u * u) = P) (hQ : u * u * (u * u) * (u * u) = Q) (g2 : ¬ EcG (a * P) (b * Q)) : Calls Try.prog 21 #[.agg #[.int .i64 a, .int .i64 b], .int .i64 u] w (GivesFB w 0 0 false) := by
  have g' := g
  obtain ⟨⟨a1, a2⟩, ⟨b1, b2⟩, -⟩ := g'
  have hPQ := ecSq_bd hu
  rw [hQ, hP] at hPQ
  have t1 := fr_mul_bd a1 a2 (show -1000 ≤ P by omega) (show P ≤ 1000 by omega)
  have t2 := fr_mul_bd b1 b2 (show -20000 ≤ Q by omega) (show Q ≤ 20000 by omega)
  have sf := fun W => scalesFor_any u P Q W hu hP hQ
  replace sf := Lib.hid sf
  clear hPQ hP hQ
  obtain ⟨u1, u2⟩ := hu
  have h := Below.refl w.heap.size w
  have hA := below_alloc1 w (.cells #[.int .i64 a, .int .i64 b] 25)
  have hx0 := Box.new w 25 #[.int .i64 a, .int .i64 b]
  replace h := Below.step h hA
  clear hA
  have hA := below_alloc1 (w.alloc (.cells #[.int .i64 a, .int .i64 b] 25)) (.cells #[.int .i64 0, .int .i64 0] 25)
  have hxr := Box.new (w.alloc (.cells #[.int .i64 a, .int .i64 b] 25)) 25 #[.int .i64 0, .int .i64 0]
  rw [show (w.alloc (.cells #[.int .i64 a, .int .i64 b] 25)).heap.size = w.heap.size + 1 from by simp] at hxr
  replace h := Below.step h hA
  replace hx0 := hx0.kept hA
  clear hA
  obtain ⟨k00, k01⟩ := hx0.two
  have l0 := hx0.lt
  obtain ⟨kr0, kr1⟩ := hxr.two
  have lr := hxr.lt
  go_enter Try.func21, Try.ntmps21
  go_wp2_with fail
  refine (isCurveI_yes a b _ g).mono ?_
  rintro e w1 ⟨rfl, hb⟩
  replace h := Below.step h hb
  replace hx0 := hx0.kept hb
  replace hxr := hxr.kept hb
  clear hb k00 k01 l0 kr0 kr1 lr
  obtain ⟨k00, k01⟩ := hx0.two
  have l0 := hx0.lt
  obtain ⟨kr0, kr1⟩ := hxr.two
  have lr := hxr.lt
  go_wp2_with fail
  refine (sf.out _).mono ?_
  rintro e w2 ⟨rfl, rfl⟩
  go_wp2_with fail
  have hA := below_alloc1 w1 (.cells #[.int .i64 (a * P), .int .i64 (b * Q)] 25)
  have hxv := Box.new w1 25 #[.int .i64 (a * P), .int .i64 (b * Q)]
  replace h := Below.step h hA
  replace hx0 := hx0.kept hA
  replace hxr := hxr.kept hA
  clear hA k00 k01 l0 kr0 kr1 lr
  generalize w1.alloc (.cells #[.int .i64 (a * P), .int .i64 (b * Q)] 25) = w3 at *
  generalize w1.heap.size = gv at hxv ⊢
  obtain ⟨k00, k01⟩ := hx0.two
  have l0 := hx0.lt
  obtain ⟨kr0, kr1⟩ := hxr.two
  have lr := hxr.lt
  obtain ⟨kv0, kv1⟩ := hxv.two
  have lv := hxv.lt
  refine (isCurveI_no (a * P) (b * Q) _ g2).mono ?_
  rintro e w4 ⟨rfl, hb⟩
  replace h := Below.step h hb
  replace hx0 := hx0.kept hb
  replace hxr := hxr.kept hb
  replace hxv := hxv.kept hb
  clear hb k00 k01 l0 kr0 kr1 lr kv0 kv1 lv
  obtain ⟨k00, k01⟩ := hx0.two
  have l0 := hx0.lt
  obtain ⟨kr0, kr1⟩ := hxr.two
  have lr := hxr.lt
  obtain ⟨kv0, kv1⟩ := hxv.two
  have lv := hxv.lt
  have fr0 := hxr.free 0
  have fr1 := hxr.free 1
  obtain ⟨sr0, sr1⟩ := ((hxr.set 0 (.int .i64 0)).set 1 (.int .i64 0)).two
  go_wp2_with fail
  refine bodyPost_ret (v := .tuple #[.agg #[.int .i64 0, .int .i64 0], .bool false]) (by simp [results, Try.results21, go_sem, sr0, sr1]) (by rfl) ⟨by rfl, ?_⟩
  exact below_sets2 h (Nat.le_add_right _ _) _ _


set_option maxHeartbeats 1000000 in
theorem scaleI_low (a b u : Int) (w : World) (g : EcG a b) (hu : u < 1) : Calls Try.prog 21 #[.agg #[.int .i64 a, .int .i64 b], .int .i64 u] w (GivesFB w 0 0 false) := by
  have h := Below.refl w.heap.size w
  have hA := below_alloc1 w (.cells #[.int .i64 a, .int .i64 b] 25)
  have hx0 := Box.new w 25 #[.int .i64 a, .int .i64 b]
  replace h := Below.step h hA
  clear hA
  have hA := below_alloc1 (w.alloc (.cells #[.int .i64 a, .int .i64 b] 25)) (.cells #[.int .i64 0, .int .i64 0] 25)
  have hxr := Box.new (w.alloc (.cells #[.int .i64 a, .int .i64 b] 25)) 25 #[.int .i64 0, .int .i64 0]
  rw [show (w.alloc (.cells #[.int .i64 a, .int .i64 b] 25)).heap.size = w.heap.size + 1 from by simp] at hxr
  replace h := Below.step h hA
  replace hx0 := hx0.kept hA
  clear hA
  obtain ⟨k00, k01⟩ := hx0.two
  have l0 := hx0.lt
  obtain ⟨kr0, kr1⟩ := hxr.two
  have lr := hxr.lt
  go_enter Try.func21, Try.ntmps21
  go_wp2_with fail
  refine (isCurveI_yes a b _ g).mono ?_
  rintro e w1 ⟨rfl, hb⟩
  replace h := Below.step h hb
  replace hx0 := hx0.kept hb
  replace hxr := hxr.kept hb
  clear hb k00 k01 l0 kr0 kr1 lr
  obtain ⟨k00, k01⟩ := hx0.two
  have l0 := hx0.lt
  obtain ⟨kr0, kr1⟩ := hxr.two
  have lr := hxr.lt
  have fr0 := hxr.free 0
  have fr1 := hxr.free 1
  obtain ⟨sr0, sr1⟩ := ((hxr.set 0 (.int .i64 0)).set 1 (.int .i64 0)).two
  go_wp2_with fail
  refine bodyPost_ret (v := .tuple #[.agg #[.int .i64 0, .int .i64 0], .bool false]) (by simp [results, Try.results21, go_sem, sr0, sr1]) (by rfl) ⟨by rfl, ?_⟩
  exact below_sets2 h (Nat.le_add_right _ _) _ _


set_option maxHeartbeats 1000000 in
theorem scaleI_high (a b u : Int) (w : World) (g : EcG a b) (h1 : 1 ≤ u) (hu : 5 < u) : Calls Try.prog 21 #[.agg #[.int .i64 a, .int .i64 b], .int .i64 u] w (GivesFB w 0 0 false) := by
  have h := Below.refl w.heap.size w
  have hA := below_alloc1 w (.cells #[.int .i64 a, .int .i64 b] 25)
  have hx0 := Box.new w 25 #[.int .i64 a, .int .i64 b]
  replace h := Below.step h hA
  clear hA
  have hA := below_alloc1 (w.alloc (.cells #[.int .i64 a, .int .i64 b] 25)) (.cells #[.int .i64 0, .int .i64 0] 25)
  have hxr := Box.new (w.alloc (.cells #[.int .i64 a, .int .i64 b] 25)) 25 #[.int .i64 0, .int .i64 0]
  rw [show (w.alloc (.cells #[.int .i64 a, .int .i64 b] 25)).heap.size = w.heap.size + 1 from by simp] at hxr
  replace h := Below.step h hA
  replace hx0 := hx0.kept hA
  clear hA
  obtain ⟨k00, k01⟩ := hx0.two
  have l0 := hx0.lt
  obtain ⟨kr0, kr1⟩ := hxr.two
  have lr := hxr.lt
  go_enter Try.func21, Try.ntmps21
  go_wp2_with fail
  refine (isCurveI_yes a b _ g).mono ?_
  rintro e w1 ⟨rfl, hb⟩
  replace h := Below.step h hb
  replace hx0 := hx0.kept hb
  replace hxr := hxr.kept hb
  clear hb k00 k01 l0 kr0 kr1 lr
  obtain ⟨k00, k01⟩ := hx0.two
  have l0 := hx0.lt
  obtain ⟨kr0, kr1⟩ := hxr.two
  have lr := hxr.lt
  have fr0 := hxr.free 0
  have fr1 := hxr.free 1
  obtain ⟨sr0, sr1⟩ := ((hxr.set 0 (.int .i64 0)).set 1 (.int .i64 0)).two
  go_wp2_with fail
  refine bodyPost_ret (v := .tuple #[.agg #[.int .i64 0, .int .i64 0], .bool false]) (by simp [results, Try.results21, go_sem, sr0, sr1]) (by rfl) ⟨by rfl, ?_⟩
  exact below_sets2 h (Nat.le_add_right _ _) _ _


set_option maxHeartbeats 1000000 in
theorem scaleI_bad (a b u : Int) (w : World) (g : ¬ EcG a b) : Calls Try.prog 21 #[.agg #[.int .i64 a, .int .i64 b], .int .i64 u] w (GivesFB w 0 0 false) := by
  have h := Below.refl w.heap.size w
  have hA := below_alloc1 w (.cells #[.int .i64 a, .int .i64 b] 25)
  have hx0 := Box.new w 25 #[.int .i64 a, .int .i64 b]
  replace h := Below.step h hA
  clear hA
  have hA := below_alloc1 (w.alloc (.cells #[.int .i64 a, .int .i64 b] 25)) (.cells #[.int .i64 0, .int .i64 0] 25)
  have hxr := Box.new (w.alloc (.cells #[.int .i64 a, .int .i64 b] 25)) 25 #[.int .i64 0, .int .i64 0]
  rw [show (w.alloc (.cells #[.int .i64 a, .int .i64 b] 25)).heap.size = w.heap.size + 1 from by simp] at hxr
  replace h := Below.step h hA
  replace hx0 := hx0.kept hA
  clear hA
  obtain ⟨k00, k01⟩ := hx0.two
  have l0 := hx0.lt
  obtain ⟨kr0, kr1⟩ := hxr.two
  have lr := hxr.lt
  go_enter Try.func21, Try.ntmps21
  go_wp2_with fail
  refine (isCurveI_no a b _ g).mono ?_
  rintro e w1 ⟨rfl, hb⟩
  replace h := Below.step h hb
  replace hx0 := hx0.kept hb
  replace hxr := hxr.kept hb
  clear hb k00 k01 l0 kr0 kr1 lr
  obtain ⟨k00, k01⟩ := hx0.two
  have l0 := hx0.lt
  obtain ⟨kr0, kr1⟩ := hxr.two
  have lr := hxr.lt
  have fr0 := hxr.free 0
  have fr1 := hxr.free 1
  obtain ⟨sr0, sr1⟩ := ((hxr.set 0 (.int .i64 0)).set 1 (.int .i64 0)).two
  go_wp2_with fail
  refine bodyPost_ret (v := .tuple #[.agg #[.int .i64 0, .int .i64 0], .bool false]) (by simp [results, Try.results21, go_sem, sr0, sr1]) (by rfl) ⟨by rfl, ?_⟩
  exact below_sets2 h (Nat.le_add_right _ _) _ _

end Go.Proofs.Ytmknmjkcnlennaa
