/- SmallestModel, AreIsomorphic (written by wip/gen/ecsm2.py). -/
import Derived.Test.YtmknmjkcnlennaaEcSm
import Derived.Test.YtmknmjkcnlennaaEcI
import Derived.Laws.StructEq
namespace Go.Proofs.Ytmknmjkcnlennaa
open Go.RowKit Go.Joins

theorem ecSmall_any (a b : Int) (w : World) (ha : -1000 ≤ a ∧ a ≤ 1000) (hb : -10000 ≤ b ∧ b ≤ 10000) : Calls Try.prog 45 #[.agg #[.int .i64 a, .int .i64 b]] w (GivesFI w (ecSA a b) (ecSB a b) (ecU a b)) := by
  rcases ecU_cases a b with ⟨h1, h2, h3⟩ | ⟨h1, h2, h3⟩ | ⟨h1, h2, h3⟩ | ⟨h1, h2, h3⟩ | ⟨h1, h2, h3⟩
  · rw [h1, h2, h3]; exact ecSmall_5 a b w ha hb h1
  · rw [h1, h2, h3]; exact ecSmall_4 a b w ha hb h1
  · rw [h1, h2, h3]; exact ecSmall_3 a b w ha hb h1
  · rw [h1, h2, h3]; exact ecSmall_2 a b w ha hb h1
  · rw [h1, h2, h3]; exact ecSmall_1 a b w ha hb h1

set_option maxHeartbeats 1000000 in
theorem smallS_yes (a b : Int) (w : World) (g : EcG a b) : Calls Try.prog 23 #[.agg #[.int .i64 a, .int .i64 b]] w (GivesFIB w (ecSA a b) (ecSB a b) (ecU a b) true) := by
  have key := fun W => ecSmall_any a b W g.1 g.2.1
  obtain ⟨PA, hPA⟩ : ∃ z, ecSA a b = z := ⟨_, rfl⟩
  obtain ⟨PB, hPB⟩ : ∃ z, ecSB a b = z := ⟨_, rfl⟩
  obtain ⟨PU, hPU⟩ : ∃ z, ecU a b = z := ⟨_, rfl⟩
  rw [hPA, hPB, hPU] at key ⊢
  replace key := Lib.hid key
  clear hPA hPB hPU
  have h := Below.refl w.heap.size w
  have hA := below_alloc1 w (.cells #[.int .i64 a, .int .i64 b] 25)
  have hx0 := Box.new w 25 #[.int .i64 a, .int .i64 b]
  replace h := Below.step h hA
  clear hA
  have hA := below_alloc1 (w.alloc (.cells #[.int .i64 a, .int .i64 b] 25)) (.cells #[.int .i64 0, .int .i64 0] 25)
  have hxr := Box.new (w.alloc (.cells #[.int .i64 a, .int .i64 b] 25)) 25 #[.int .i64 0, .int .i64 0]
  rw [show (w.alloc (.cells #[.int .i64 a, .int .i64 b] 25)).heap.size = w.heap.size + 1 from by simp] at hxr
  replace h := Below.step h hA
  replace hx0 := hx0.kept hA
  clear hA
  obtain ⟨k00, k01⟩ := hx0.two
  have l0 := hx0.lt
  obtain ⟨kr0, kr1⟩ := hxr.two
  have lr := hxr.lt
  go_enter Try.func23, Try.ntmps23
  go_wp2_with fail
  refine (ecGood_yes a b _ g).mono ?_
  rintro e w1 ⟨rfl, hb⟩
  replace h := Below.step h hb
  replace hx0 := hx0.kept hb
  replace hxr := hxr.kept hb
  clear hb k00 k01 l0 kr0 kr1 lr
  obtain ⟨k00, k01⟩ := hx0.two
  have l0 := hx0.lt
  obtain ⟨kr0, kr1⟩ := hxr.two
  have lr := hxr.lt
  go_wp2_with fail
  refine (key.out _).mono ?_
  rintro e w2 ⟨rfl, hb⟩
  replace h := Below.step h hb
  replace hx0 := hx0.kept hb
  replace hxr := hxr.kept hb
  clear hb k00 k01 l0 kr0 kr1 lr
  obtain ⟨k00, k01⟩ := hx0.two
  have l0 := hx0.lt
  obtain ⟨kr0, kr1⟩ := hxr.two
  have lr := hxr.lt
  have fr0 := hxr.free 0
  have fr1 := hxr.free 1
  obtain ⟨sr0, sr1⟩ := ((hxr.set 0 (.int .i64 PA)).set 1 (.int .i64 PB)).two
  go_wp2_with fail
  clear sr0 sr1
  obtain ⟨sr0, sr1⟩ := (((hxr.set 0 (.int .i64 PA)).set 1 (.int .i64 PB)).kept (below_alloc1 _ (.cells #[.int .i64 PA, .int .i64 PB] 25))).two
  refine bodyPost_ret (v := .tuple #[.agg #[.int .i64 PA, .int .i64 PB], .int .i64 PU, .bool true]) (by simp [results, Try.results23, go_sem, sr0, sr1]) (by rfl) ⟨by rfl, ?_⟩
  exact Below.step (below_sets2 h (Nat.le_add_right _ _) _ _) (below_alloc1 _ _)


set_option maxHeartbeats 1000000 in
theorem smallS_bad (a b : Int) (w : World) (g : ¬ EcG a b) : Calls Try.prog 23 #[.agg #[.int .i64 a, .int .i64 b]] w (GivesFIB w 0 0 0 false) := by
  have h := Below.refl w.heap.size w
  have hA := below_alloc1 w (.cells #[.int .i64 a, .int .i64 b] 25)
  have hx0 := Box.new w 25 #[.int .i64 a, .int .i64 b]
  replace h := Below.step h hA
  clear hA
  have hA := below_alloc1 (w.alloc (.cells #[.int .i64 a, .int .i64 b] 25)) (.cells #[.int .i64 0, .int .i64 0] 25)
  have hxr := Box.new (w.alloc (.cells #[.int .i64 a, .int .i64 b] 25)) 25 #[.int .i64 0, .int .i64 0]
  rw [show (w.alloc (.cells #[.int .i64 a, .int .i64 b] 25)).heap.size = w.heap.size + 1 from by simp] at hxr
  replace h := Below.step h hA
  replace hx0 := hx0.kept hA
  clear hA
  obtain ⟨k00, k01⟩ := hx0.two
  have l0 := hx0.lt
  obtain ⟨kr0, kr1⟩ := hxr.two
  have lr := hxr.lt
  go_enter Try.func23, Try.ntmps23
  go_wp2_with fail
  refine (ecGood_no a b _ g).mono ?_
  rintro e w1 ⟨rfl, hb⟩
  replace h := Below.step h hb
  replace hx0 := hx0.kept hb
  replace hxr := hxr.kept hb
  clear hb k00 k01 l0 kr0 kr1 lr
  obtain ⟨k00, k01⟩ := hx0.two
  have l0 := hx0.lt
  obtain ⟨kr0, kr1⟩ := hxr.two
  have lr := hxr.lt
  have fr0 := hxr.free 0
  have fr1 := hxr.free 1
  obtain ⟨sr0, sr1⟩ := ((hxr.set 0 (.int .i64 0)).set 1 (.int .i64 0)).two
  go_wp2_with fail
  refine bodyPost_ret (v := .tuple #[.agg #[.int .i64 0, .int .i64 0], .int .i64 0, .bool false]) (by simp [results, Try.results23, go_sem, sr0, sr1]) (by rfl) ⟨by rfl, ?_⟩
  exact below_sets2 h (Nat.le_add_right _ _) _ _


set_option maxHeartbeats 1000000 in
theorem smallI_bad (a b : Int) (w : World) (g : ¬ EcG a b) : Calls Try.prog 24 #[.agg #[.int .i64 a, .int .i64 b]] w (GivesFIB w 0 0 0 false) := by
  have h := Below.refl w.heap.size w
  have hA := below_alloc1 w (.cells #[.int .i64 a, .int .i64 b] 25)
  have hx0 := Box.new w 25 #[.int .i64 a, .int .i64 b]
  replace h := Below.step h hA
  clear hA
  have hA := below_alloc1 (w.alloc (.cells #[.int .i64 a, .int .i64 b] 25)) (.cells #[.int .i64 0, .int .i64 0] 25)
  have hxr := Box.new (w.alloc (.cells #[.int .i64 a, .int .i64 b] 25)) 25 #[.int .i64 0, .int .i64 0]
  rw [show (w.alloc (.cells #[.int .i64 a, .int .i64 b] 25)).heap.size = w.heap.size + 1 from by simp] at hxr
  replace h := Below.step h hA
  replace hx0 := hx0.kept hA
  clear hA
  obtain ⟨k00, k01⟩ := hx0.two
  have l0 := hx0.lt
  obtain ⟨kr0, kr1⟩ := hxr.two
  have lr := hxr.lt
  go_enter Try.func24, Try.ntmps24
  go_wp2_with fail
  refine (isCurveI_no a b _ g).mono ?_
  rintro e w1 ⟨rfl, hb⟩
  replace h := Below.step h hb
  replace hx0 := hx0.kept hb
  replace hxr := hxr.kept hb
  clear hb k00 k01 l0 kr0 kr1 lr
  obtain ⟨k00, k01⟩ := hx0.two
  have l0 := hx0.lt
  obtain ⟨kr0, kr1⟩ := hxr.two
  have lr := hxr.lt
  have fr0 := hxr.free 0
  have fr1 := hxr.free 1
  obtain ⟨sr0, sr1⟩ := ((hxr.set 0 (.int .i64 0)).set 1 (.int .i64 0)).two
  go_wp2_with fail
  refine bodyPost_ret (v := .tuple #[.agg #[.int .i64 0, .int .i64 0], .int .i64 0, .bool false]) (by simp [results, Try.results24, go_sem, sr0, sr1]) (by rfl) ⟨by rfl, ?_⟩
  exact below_sets2 h (Nat.le_add_right _ _) _ _


set_option maxHeartbeats 2000000 in
theorem smallI_5 (a b : Int) (w : World) (g : EcG a b)  (s5 : ecS a b 625 15625) : Calls Try.prog 24 #[.agg #[.int .i64 a, .int .i64 b]] w (GivesFIB w (a.tdiv 625) (b.tdiv 15625) 5 true) := by
  have g' := g
  obtain ⟨ha, hb, -⟩ := g'
  replace g := Lib.hid g
  have sf5 := fun W => scalesFor_any 5 625 15625 W (by omega) (by decide) (by decide)
  replace sf5 := Lib.hid sf5
  obtain ⟨m1, m2⟩ := s5
  replace m1 := Lib.hid m1
  replace m2 := Lib.hid m2
  have t1 := tdiv_bd (d := 625) ha.1 ha.2
  have t2 := tdiv_bd (d := 15625) hb.1 hb.2
  clear ha hb
  have h := Below.refl w.heap.size w
  have hA := below_alloc1 w (.cells #[.int .i64 a, .int .i64 b] 25)
  have hx0 := Box.new w 25 #[.int .i64 a, .int .i64 b]
  replace h := Below.step h hA
  clear hA
  have hA := below_alloc1 (w.alloc (.cells #[.int .i64 a, .int .i64 b] 25)) (.cells #[.int .i64 0, .int .i64 0] 25)
  have hxr := Box.new (w.alloc (.cells #[.int .i64 a, .int .i64 b] 25)) 25 #[.int .i64 0, .int .i64 0]
  rw [show (w.alloc (.cells #[.int .i64 a, .int .i64 b] 25)).heap.size = w.heap.size + 1 from by simp] at hxr
  replace h := Below.step h hA
  replace hx0 := hx0.kept hA
  clear hA
  obtain ⟨k00, k01⟩ := hx0.two
  have l0 := hx0.lt
  obtain ⟨kr0, kr1⟩ := hxr.two
  have lr := hxr.lt
  go_enter Try.func24, Try.ntmps24
  go_wp2_with fail
  refine (isCurveI_yes a b _ g.out).mono ?_
  rintro e w1 ⟨rfl, hb⟩
  replace h := Below.step h hb
  replace hx0 := hx0.kept hb
  replace hxr := hxr.kept hb
  clear hb k00 k01 l0 kr0 kr1 lr
  obtain ⟨k00, k01⟩ := hx0.two
  have l0 := hx0.lt
  obtain ⟨kr0, kr1⟩ := hxr.two
  have lr := hxr.lt
  have fr0 := hxr.free 0
  have fr1 := hxr.free 1
  obtain ⟨sr0, sr1⟩ := ((hxr.set 0 (.int .i64 (a.tdiv 625))).set 1 (.int .i64 (b.tdiv 15625))).two
  go_wp2_with fail
  go_loop [5] (fun x => ∃ (k : Nat), k ≤ 0 ∧ x = .int .i64 (5 - (k : Int))) (fun x => (intOf x).toNat)
  case atStart => exact ⟨0, by omega, rfl⟩
  case round =>
    obtain ⟨k, hk, rfl⟩ := hrel
    rcases (show k = 0 by omega) with rfl
    · go_wp2_with fail
      refine (sf5.out _).mono ?_
      rintro e w2 ⟨rfl, rfl⟩
      have M1 := m1.out
      have M2 := m2.out
      go_wp2_with fail
      go_region
      go_wp2_with fail
      refine bodyPost_ret (v := .tuple #[.agg #[.int .i64 (a.tdiv 625), .int .i64 (b.tdiv 15625)], .int .i64 5, .bool true]) (by simp [results, Try.results24, go_sem, sr0, sr1]) (by rfl) ⟨by rfl, ?_⟩
      first | exact below_sets2 h (Nat.le_add_right _ _) _ _ | exact Below.drewN' (below_sets2 h (Nat.le_add_right _ _) _ _) 1


set_option maxHeartbeats 2000000 in
theorem smallI_4 (a b : Int) (w : World) (g : EcG a b) (n5 : ¬ ecS a b 625 15625) (s4 : ecS a b 256 4096) : Calls Try.prog 24 #[.agg #[.int .i64 a, .int .i64 b]] w (GivesFIB w (a.tdiv 256) (b.tdiv 4096) 4 true) := by
  have g' := g
  obtain ⟨ha, hb, -⟩ := g'
  replace g := Lib.hid g
  have sf5 := fun W => scalesFor_any 5 625 15625 W (by omega) (by decide) (by decide)
  replace sf5 := Lib.hid sf5
  have sf4 := fun W => scalesFor_any 4 256 4096 W (by omega) (by decide) (by decide)
  replace sf4 := Lib.hid sf4
  obtain ⟨m1, m2⟩ := s4
  replace m1 := Lib.hid m1
  replace m2 := Lib.hid m2
  have t1 := tdiv_bd (d := 256) ha.1 ha.2
  have t2 := tdiv_bd (d := 4096) hb.1 hb.2
  clear ha hb
  have h := Below.refl w.heap.size w
  have hA := below_alloc1 w (.cells #[.int .i64 a, .int .i64 b] 25)
  have hx0 := Box.new w 25 #[.int .i64 a, .int .i64 b]
  replace h := Below.step h hA
  clear hA
  have hA := below_alloc1 (w.alloc (.cells #[.int .i64 a, .int .i64 b] 25)) (.cells #[.int .i64 0, .int .i64 0] 25)
  have hxr := Box.new (w.alloc (.cells #[.int .i64 a, .int .i64 b] 25)) 25 #[.int .i64 0, .int .i64 0]
  rw [show (w.alloc (.cells #[.int .i64 a, .int .i64 b] 25)).heap.size = w.heap.size + 1 from by simp] at hxr
  replace h := Below.step h hA
  replace hx0 := hx0.kept hA
  clear hA
  obtain ⟨k00, k01⟩ := hx0.two
  have l0 := hx0.lt
  obtain ⟨kr0, kr1⟩ := hxr.two
  have lr := hxr.lt
  go_enter Try.func24, Try.ntmps24
  go_wp2_with fail
  refine (isCurveI_yes a b _ g.out).mono ?_
  rintro e w1 ⟨rfl, hb⟩
  replace h := Below.step h hb
  replace hx0 := hx0.kept hb
  replace hxr := hxr.kept hb
  clear hb k00 k01 l0 kr0 kr1 lr
  obtain ⟨k00, k01⟩ := hx0.two
  have l0 := hx0.lt
  obtain ⟨kr0, kr1⟩ := hxr.two
  have lr := hxr.lt
  have fr0 := hxr.free 0
  have fr1 := hxr.free 1
  obtain ⟨sr0, sr1⟩ := ((hxr.set 0 (.int .i64 (a.tdiv 256))).set 1 (.int .i64 (b.tdiv 4096))).two
  go_wp2_with fail
  go_loop [5] (fun x => ∃ (k : Nat), k ≤ 1 ∧ x = .int .i64 (5 - (k : Int))) (fun x => (intOf x).toNat)
  case atStart => exact ⟨0, by omega, rfl⟩
  case round =>
    obtain ⟨k, hk, rfl⟩ := hrel
    rcases (show k = 0 ∨ k = 1 by omega) with rfl | rfl
    · by_cases m1 : a.tmod 625 = 0
      · have m2 : (b.tmod 15625 == 0) = false := by rw [beq_eq_false_iff_ne]; exact fun e => n5 ⟨m1, e⟩
        clear n5
        go_wp2_with fail
        refine (sf5.out _).mono ?_
        rintro e w2 ⟨rfl, rfl⟩
        go_wp2_with fail
        go_round
        case rel => exact ⟨1, by omega, rfl⟩
        case measure => simp [intOf]
      · have m2 : (a.tmod 625 == 0) = false := by rw [beq_eq_false_iff_ne]; exact m1
        clear m1
        clear n5
        go_wp2_with fail
        refine (sf5.out _).mono ?_
        rintro e w2 ⟨rfl, rfl⟩
        go_wp2_with fail
        go_round
        case rel => exact ⟨1, by omega, rfl⟩
        case measure => simp [intOf]
    · clear n5
      go_wp2_with fail
      refine (sf4.out _).mono ?_
      rintro e w2 ⟨rfl, rfl⟩
      have M1 := m1.out
      have M2 := m2.out
      go_wp2_with fail
      go_region
      go_wp2_with fail
      refine bodyPost_ret (v := .tuple #[.agg #[.int .i64 (a.tdiv 256), .int .i64 (b.tdiv 4096)], .int .i64 4, .bool true]) (by simp [results, Try.results24, go_sem, sr0, sr1]) (by rfl) ⟨by rfl, ?_⟩
      first | exact below_sets2 h (Nat.le_add_right _ _) _ _ | exact Below.drewN' (below_sets2 h (Nat.le_add_right _ _) _ _) 1


set_option maxHeartbeats 2000000 in
theorem smallI_3 (a b : Int) (w : World) (g : EcG a b) (n5 : ¬ ecS a b 625 15625) (n4 : ¬ ecS a b 256 4096) (s3 : ecS a b 81 729) : Calls Try.prog 24 #[.agg #[.int .i64 a, .int .i64 b]] w (GivesFIB w (a.tdiv 81) (b.tdiv 729) 3 true) := by
  have g' := g
  obtain ⟨ha, hb, -⟩ := g'
  replace g := Lib.hid g
  have sf5 := fun W => scalesFor_any 5 625 15625 W (by omega) (by decide) (by decide)
  replace sf5 := Lib.hid sf5
  have sf4 := fun W => scalesFor_any 4 256 4096 W (by omega) (by decide) (by decide)
  replace sf4 := Lib.hid sf4
  have sf3 := fun W => scalesFor_any 3 81 729 W (by omega) (by decide) (by decide)
  replace sf3 := Lib.hid sf3
  obtain ⟨m1, m2⟩ := s3
  replace m1 := Lib.hid m1
  replace m2 := Lib.hid m2
  have t1 := tdiv_bd (d := 81) ha.1 ha.2
  have t2 := tdiv_bd (d := 729) hb.1 hb.2
  clear ha hb
  have h := Below.refl w.heap.size w
  have hA := below_alloc1 w (.cells #[.int .i64 a, .int .i64 b] 25)
  have hx0 := Box.new w 25 #[.int .i64 a, .int .i64 b]
  replace h := Below.step h hA
  clear hA
  have hA := below_alloc1 (w.alloc (.cells #[.int .i64 a, .int .i64 b] 25)) (.cells #[.int .i64 0, .int .i64 0] 25)
  have hxr := Box.new (w.alloc (.cells #[.int .i64 a, .int .i64 b] 25)) 25 #[.int .i64 0, .int .i64 0]
  rw [show (w.alloc (.cells #[.int .i64 a, .int .i64 b] 25)).heap.size = w.heap.size + 1 from by simp] at hxr
  replace h := Below.step h hA
  replace hx0 := hx0.kept hA
  clear hA
  obtain ⟨k00, k01⟩ := hx0.two
  have l0 := hx0.lt
  obtain ⟨kr0, kr1⟩ := hxr.two
  have lr := hxr.lt
  go_enter Try.func24, Try.ntmps24
  go_wp2_with fail
  refine (isCurveI_yes a b _ g.out).mono ?_
  rintro e w1 ⟨rfl, hb⟩
  replace h := Below.step h hb
  replace hx0 := hx0.kept hb
  replace hxr := hxr.kept hb
  clear hb k00 k01 l0 kr0 kr1 lr
  obtain ⟨k00, k01⟩ := hx0.two
  have l0 := hx0.lt
  obtain ⟨kr0, kr1⟩ := hxr.two
  have lr := hxr.lt
  have fr0 := hxr.free 0
  have fr1 := hxr.free 1
  obtain ⟨sr0, sr1⟩ := ((hxr.set 0 (.int .i64 (a.tdiv 81))).set 1 (.int .i64 (b.tdiv 729))).two
  go_wp2_with fail
  go_loop [5] (fun x => ∃ (k : Nat), k ≤ 2 ∧ x = .int .i64 (5 - (k : Int))) (fun x => (intOf x).toNat)
  case atStart => exact ⟨0, by omega, rfl⟩
  case round =>
    obtain ⟨k, hk, rfl⟩ := hrel
    rcases (show k = 0 ∨ k = 1 ∨ k = 2 by omega) with rfl | rfl | rfl
    · by_cases m1 : a.tmod 625 = 0
      · have m2 : (b.tmod 15625 == 0) = false := by rw [beq_eq_false_iff_ne]; exact fun e => n5 ⟨m1, e⟩
        clear n5 n4
        go_wp2_with fail
        refine (sf5.out _).mono ?_
        rintro e w2 ⟨rfl, rfl⟩
        go_wp2_with fail
        go_round
        case rel => exact ⟨1, by omega, rfl⟩
        case measure => simp [intOf]
      · have m2 : (a.tmod 625 == 0) = false := by rw [beq_eq_false_iff_ne]; exact m1
        clear m1
        clear n5 n4
        go_wp2_with fail
        refine (sf5.out _).mono ?_
        rintro e w2 ⟨rfl, rfl⟩
        go_wp2_with fail
        go_round
        case rel => exact ⟨1, by omega, rfl⟩
        case measure => simp [intOf]
    · by_cases m1 : a.tmod 256 = 0
      · have m2 : (b.tmod 4096 == 0) = false := by rw [beq_eq_false_iff_ne]; exact fun e => n4 ⟨m1, e⟩
        clear n5 n4
        go_wp2_with fail
        refine (sf4.out _).mono ?_
        rintro e w2 ⟨rfl, rfl⟩
        go_wp2_with fail
        go_round
        case rel => exact ⟨2, by omega, rfl⟩
        case measure => simp [intOf]
      · have m2 : (a.tmod 256 == 0) = false := by rw [beq_eq_false_iff_ne]; exact m1
        clear m1
        clear n5 n4
        go_wp2_with fail
        refine (sf4.out _).mono ?_
        rintro e w2 ⟨rfl, rfl⟩
        go_wp2_with fail
        go_round
        case rel => exact ⟨2, by omega, rfl⟩
        case measure => simp [intOf]
    · clear n5 n4
      go_wp2_with fail
      refine (sf3.out _).mono ?_
      rintro e w2 ⟨rfl, rfl⟩
      have M1 := m1.out
      have M2 := m2.out
      go_wp2_with fail
      go_region
      go_wp2_with fail
      refine bodyPost_ret (v := .tuple #[.agg #[.int .i64 (a.tdiv 81), .int .i64 (b.tdiv 729)], .int .i64 3, .bool true]) (by simp [results, Try.results24, go_sem, sr0, sr1]) (by rfl) ⟨by rfl, ?_⟩
      first | exact below_sets2 h (Nat.le_add_right _ _) _ _ | exact Below.drewN' (below_sets2 h (Nat.le_add_right _ _) _ _) 1


set_option maxHeartbeats 2000000 in
theorem smallI_2 (a b : Int) (w : World) (g : EcG a b) (n5 : ¬ ecS a b 625 15625) (n4 : ¬ ecS a b 256 4096) (n3 : ¬ ecS a b 81 729) (s2 : ecS a b 16 64) : Calls Try.prog 24 #[.agg #[.int .i64 a, .int .i64 b]] w (GivesFIB w (a.tdiv 16) (b.tdiv 64) 2 true) := by
  have g' := g
  obtain ⟨ha, hb, -⟩ := g'
  replace g := Lib.hid g
  have sf5 := fun W => scalesFor_any 5 625 15625 W (by omega) (by decide) (by decide)
  replace sf5 := Lib.hid sf5
  have sf4 := fun W => scalesFor_any 4 256 4096 W (by omega) (by decide) (by decide)
  replace sf4 := Lib.hid sf4
  have sf3 := fun W => scalesFor_any 3 81 729 W (by omega) (by decide) (by decide)
  replace sf3 := Lib.hid sf3
  have sf2 := fun W => scalesFor_any 2 16 64 W (by omega) (by decide) (by decide)
  replace sf2 := Lib.hid sf2
  obtain ⟨m1, m2⟩ := s2
  replace m1 := Lib.hid m1
  replace m2 := Lib.hid m2
  have t1 := tdiv_bd (d := 16) ha.1 ha.2
  have t2 := tdiv_bd (d := 64) hb.1 hb.2
  clear ha hb
  have h := Below.refl w.heap.size w
  have hA := below_alloc1 w (.cells #[.int .i64 a, .int .i64 b] 25)
  have hx0 := Box.new w 25 #[.int .i64 a, .int .i64 b]
  replace h := Below.step h hA
  clear hA
  have hA := below_alloc1 (w.alloc (.cells #[.int .i64 a, .int .i64 b] 25)) (.cells #[.int .i64 0, .int .i64 0] 25)
  have hxr := Box.new (w.alloc (.cells #[.int .i64 a, .int .i64 b] 25)) 25 #[.int .i64 0, .int .i64 0]
  rw [show (w.alloc (.cells #[.int .i64 a, .int .i64 b] 25)).heap.size = w.heap.size + 1 from by simp] at hxr
  replace h := Below.step h hA
  replace hx0 := hx0.kept hA
  clear hA
  obtain ⟨k00, k01⟩ := hx0.two
  have l0 := hx0.lt
  obtain ⟨kr0, kr1⟩ := hxr.two
  have lr := hxr.lt
  go_enter Try.func24, Try.ntmps24
  go_wp2_with fail
  refine (isCurveI_yes a b _ g.out).mono ?_
  rintro e w1 ⟨rfl, hb⟩
  replace h := Below.step h hb
  replace hx0 := hx0.kept hb
  replace hxr := hxr.kept hb
  clear hb k00 k01 l0 kr0 kr1 lr
  obtain ⟨k00, k01⟩ := hx0.two
  have l0 := hx0.lt
  obtain ⟨kr0, kr1⟩ := hxr.two
  have lr := hxr.lt
  have fr0 := hxr.free 0
  have fr1 := hxr.free 1
  obtain ⟨sr0, sr1⟩ := ((hxr.set 0 (.int .i64 (a.tdiv 16))).set 1 (.int .i64 (b.tdiv 64))).two
  go_wp2_with fail
  go_loop [5] (fun x => ∃ (k : Nat), k ≤ 3 ∧ x = .int .i64 (5 - (k : Int))) (fun x => (intOf x).toNat)
  case atStart => exact ⟨0, by omega, rfl⟩
  case round =>
    obtain ⟨k, hk, rfl⟩ := hrel
    rcases (show k = 0 ∨ k = 1 ∨ k = 2 ∨ k = 3 by omega) with rfl | rfl | rfl | rfl
    · by_cases m1 : a.tmod 625 = 0
      · have m2 : (b.tmod 15625 == 0) = false := by rw [beq_eq_false_iff_ne]; exact fun e => n5 ⟨m1, e⟩
        clear n5 n4 n3
        go_wp2_with fail
        refine (sf5.out _).mono ?_
        rintro e w2 ⟨rfl, rfl⟩
        go_wp2_with fail
        go_round
        case rel => exact ⟨1, by omega, rfl⟩
        case measure => simp [intOf]
      · have m2 : (a.tmod 625 == 0) = false := by rw [beq_eq_false_iff_ne]; exact m1
        clear m1
        clear n5 n4 n3
        go_wp2_with fail
        refine (sf5.out _).mono ?_
        rintro e w2 ⟨rfl, rfl⟩
        go_wp2_with fail
        go_round
        case rel => exact ⟨1, by omega, rfl⟩
        case measure => simp [intOf]
    · by_cases m1 : a.tmod 256 = 0
      · have m2 : (b.tmod 4096 == 0) = false := by rw [beq_eq_false_iff_ne]; exact fun e => n4 ⟨m1, e⟩
        clear n5 n4 n3
        go_wp2_with fail
        refine (sf4.out _).mono ?_
        rintro e w2 ⟨rfl, rfl⟩
        go_wp2_with fail
        go_round
        case rel => exact ⟨2, by omega, rfl⟩
        case measure => simp [intOf]
      · have m2 : (a.tmod 256 == 0) = false := by rw [beq_eq_false_iff_ne]; exact m1
        clear m1
        clear n5 n4 n3
        go_wp2_with fail
        refine (sf4.out _).mono ?_
        rintro e w2 ⟨rfl, rfl⟩
        go_wp2_with fail
        go_round
        case rel => exact ⟨2, by omega, rfl⟩
        case measure => simp [intOf]
    · by_cases m1 : a.tmod 81 = 0
      · have m2 : (b.tmod 729 == 0) = false := by rw [beq_eq_false_iff_ne]; exact fun e => n3 ⟨m1, e⟩
        clear n5 n4 n3
        go_wp2_with fail
        refine (sf3.out _).mono ?_
        rintro e w2 ⟨rfl, rfl⟩
        go_wp2_with fail
        go_round
        case rel => exact ⟨3, by omega, rfl⟩
        case measure => simp [intOf]
      · have m2 : (a.tmod 81 == 0) = false := by rw [beq_eq_false_iff_ne]; exact m1
        clear m1
        clear n5 n4 n3
        go_wp2_with fail
        refine (sf3.out _).mono ?_
        rintro e w2 ⟨rfl, rfl⟩
        go_wp2_with fail
        go_round
        case rel => exact ⟨3, by omega, rfl⟩
        case measure => simp [intOf]
    · clear n5 n4 n3
      go_wp2_with fail
      refine (sf2.out _).mono ?_
      rintro e w2 ⟨rfl, rfl⟩
      have M1 := m1.out
      have M2 := m2.out
      go_wp2_with fail
      go_region
      go_wp2_with fail
      refine bodyPost_ret (v := .tuple #[.agg #[.int .i64 (a.tdiv 16), .int .i64 (b.tdiv 64)], .int .i64 2, .bool true]) (by simp [results, Try.results24, go_sem, sr0, sr1]) (by rfl) ⟨by rfl, ?_⟩
      first | exact below_sets2 h (Nat.le_add_right _ _) _ _ | exact Below.drewN' (below_sets2 h (Nat.le_add_right _ _) _ _) 1


set_option maxHeartbeats 2000000 in
theorem smallI_1 (a b : Int) (w : World) (g : EcG a b) (n5 : ¬ ecS a b 625 15625) (n4 : ¬ ecS a b 256 4096) (n3 : ¬ ecS a b 81 729) (n2 : ¬ ecS a b 16 64) : Calls Try.prog 24 #[.agg #[.int .i64 a, .int .i64 b]] w (GivesFIB w (a) (b) 1 true) := by
  have g' := g
  obtain ⟨ha, hb, -⟩ := g'
  replace g := Lib.hid g
  have sf5 := fun W => scalesFor_any 5 625 15625 W (by omega) (by decide) (by decide)
  replace sf5 := Lib.hid sf5
  have sf4 := fun W => scalesFor_any 4 256 4096 W (by omega) (by decide) (by decide)
  replace sf4 := Lib.hid sf4
  have sf3 := fun W => scalesFor_any 3 81 729 W (by omega) (by decide) (by decide)
  replace sf3 := Lib.hid sf3
  have sf2 := fun W => scalesFor_any 2 16 64 W (by omega) (by decide) (by decide)
  replace sf2 := Lib.hid sf2
  have t1 := tdiv_bd (d := 1) ha.1 ha.2
  have t2 := tdiv_bd (d := 1) hb.1 hb.2
  clear ha hb
  have h := Below.refl w.heap.size w
  have hA := below_alloc1 w (.cells #[.int .i64 a, .int .i64 b] 25)
  have hx0 := Box.new w 25 #[.int .i64 a, .int .i64 b]
  replace h := Below.step h hA
  clear hA
  have hA := below_alloc1 (w.alloc (.cells #[.int .i64 a, .int .i64 b] 25)) (.cells #[.int .i64 0, .int .i64 0] 25)
  have hxr := Box.new (w.alloc (.cells #[.int .i64 a, .int .i64 b] 25)) 25 #[.int .i64 0, .int .i64 0]
  rw [show (w.alloc (.cells #[.int .i64 a, .int .i64 b] 25)).heap.size = w.heap.size + 1 from by simp] at hxr
  replace h := Below.step h hA
  replace hx0 := hx0.kept hA
  clear hA
  obtain ⟨k00, k01⟩ := hx0.two
  have l0 := hx0.lt
  obtain ⟨kr0, kr1⟩ := hxr.two
  have lr := hxr.lt
  go_enter Try.func24, Try.ntmps24
  go_wp2_with fail
  refine (isCurveI_yes a b _ g.out).mono ?_
  rintro e w1 ⟨rfl, hb⟩
  replace h := Below.step h hb
  replace hx0 := hx0.kept hb
  replace hxr := hxr.kept hb
  clear hb k00 k01 l0 kr0 kr1 lr
  obtain ⟨k00, k01⟩ := hx0.two
  have l0 := hx0.lt
  obtain ⟨kr0, kr1⟩ := hxr.two
  have lr := hxr.lt
  have fr0 := hxr.free 0
  have fr1 := hxr.free 1
  obtain ⟨sr0, sr1⟩ := ((hxr.set 0 (.int .i64 (a))).set 1 (.int .i64 (b))).two
  go_wp2_with fail
  go_loop [5] (fun x => ∃ (k : Nat), k ≤ 4 ∧ x = .int .i64 (5 - (k : Int))) (fun x => (intOf x).toNat)
  case atStart => exact ⟨0, by omega, rfl⟩
  case round =>
    obtain ⟨k, hk, rfl⟩ := hrel
    rcases (show k = 0 ∨ k = 1 ∨ k = 2 ∨ k = 3 ∨ k = 4 by omega) with rfl | rfl | rfl | rfl | rfl
    · by_cases m1 : a.tmod 625 = 0
      · have m2 : (b.tmod 15625 == 0) = false := by rw [beq_eq_false_iff_ne]; exact fun e => n5 ⟨m1, e⟩
        clear n5 n4 n3 n2
        go_wp2_with fail
        refine (sf5.out _).mono ?_
        rintro e w2 ⟨rfl, rfl⟩
        go_wp2_with fail
        go_round
        case rel => exact ⟨1, by omega, rfl⟩
        case measure => simp [intOf]
      · have m2 : (a.tmod 625 == 0) = false := by rw [beq_eq_false_iff_ne]; exact m1
        clear m1
        clear n5 n4 n3 n2
        go_wp2_with fail
        refine (sf5.out _).mono ?_
        rintro e w2 ⟨rfl, rfl⟩
        go_wp2_with fail
        go_round
        case rel => exact ⟨1, by omega, rfl⟩
        case measure => simp [intOf]
    · by_cases m1 : a.tmod 256 = 0
      · have m2 : (b.tmod 4096 == 0) = false := by rw [beq_eq_false_iff_ne]; exact fun e => n4 ⟨m1, e⟩
        clear n5 n4 n3 n2
        go_wp2_with fail
        refine (sf4.out _).mono ?_
        rintro e w2 ⟨rfl, rfl⟩
        go_wp2_with fail
        go_round
        case rel => exact ⟨2, by omega, rfl⟩
        case measure => simp [intOf]
      · have m2 : (a.tmod 256 == 0) = false := by rw [beq_eq_false_iff_ne]; exact m1
        clear m1
        clear n5 n4 n3 n2
        go_wp2_with fail
        refine (sf4.out _).mono ?_
        rintro e w2 ⟨rfl, rfl⟩
        go_wp2_with fail
        go_round
        case rel => exact ⟨2, by omega, rfl⟩
        case measure => simp [intOf]
    · by_cases m1 : a.tmod 81 = 0
      · have m2 : (b.tmod 729 == 0) = false := by rw [beq_eq_false_iff_ne]; exact fun e => n3 ⟨m1, e⟩
        clear n5 n4 n3 n2
        go_wp2_with fail
        refine (sf3.out _).mono ?_
        rintro e w2 ⟨rfl, rfl⟩
        go_wp2_with fail
        go_round
        case rel => exact ⟨3, by omega, rfl⟩
        case measure => simp [intOf]
      · have m2 : (a.tmod 81 == 0) = false := by rw [beq_eq_false_iff_ne]; exact m1
        clear m1
        clear n5 n4 n3 n2
        go_wp2_with fail
        refine (sf3.out _).mono ?_
        rintro e w2 ⟨rfl, rfl⟩
        go_wp2_with fail
        go_round
        case rel => exact ⟨3, by omega, rfl⟩
        case measure => simp [intOf]
    · by_cases m1 : a.tmod 16 = 0
      · have m2 : (b.tmod 64 == 0) = false := by rw [beq_eq_false_iff_ne]; exact fun e => n2 ⟨m1, e⟩
        clear n5 n4 n3 n2
        go_wp2_with fail
        refine (sf2.out _).mono ?_
        rintro e w2 ⟨rfl, rfl⟩
        go_wp2_with fail
        go_round
        case rel => exact ⟨4, by omega, rfl⟩
        case measure => simp [intOf]
      · have m2 : (a.tmod 16 == 0) = false := by rw [beq_eq_false_iff_ne]; exact m1
        clear m1
        clear n5 n4 n3 n2
        go_wp2_with fail
        refine (sf2.out _).mono ?_
        rintro e w2 ⟨rfl, rfl⟩
        go_wp2_with fail
        go_round
        case rel => exact ⟨4, by omega, rfl⟩
        case measure => simp [intOf]
    · clear n5 n4 n3 n2
      go_wp2_with fail
      refine bodyPost_ret (v := .tuple #[.agg #[.int .i64 (a), .int .i64 (b)], .int .i64 1, .bool true]) (by simp [results, Try.results24, go_sem, sr0, sr1]) (by rfl) ⟨by rfl, ?_⟩
      first | exact below_sets2 h (Nat.le_add_right _ _) _ _ | exact Below.drewN' (below_sets2 h (Nat.le_add_right _ _) _ _) 1


theorem smallI_yes (a b : Int) (w : World) (g : EcG a b) : Calls Try.prog 24 #[.agg #[.int .i64 a, .int .i64 b]] w (GivesFIB w (ecSA a b) (ecSB a b) (ecU a b) true) := by
  unfold ecSA ecSB ecU
  by_cases h5 : ecS a b 625 15625
  · rw [if_pos h5, if_pos h5, if_pos h5]; exact smallI_5 a b w g h5
  · rw [if_neg h5, if_neg h5, if_neg h5]
    by_cases h4 : ecS a b 256 4096
    · rw [if_pos h4, if_pos h4, if_pos h4]; exact smallI_4 a b w g h5 h4
    · rw [if_neg h4, if_neg h4, if_neg h4]
      by_cases h3 : ecS a b 81 729
      · rw [if_pos h3, if_pos h3, if_pos h3]; exact smallI_3 a b w g h5 h4 h3
      · rw [if_neg h3, if_neg h3, if_neg h3]
        by_cases h2 : ecS a b 16 64
        · rw [if_pos h2, if_pos h2, if_pos h2]; exact smallI_2 a b w g h5 h4 h3 h2
        · rw [if_neg h2, if_neg h2, if_neg h2]; exact smallI_1 a b w g h5 h4 h3 h2
theorem eql_curve (p q r s : Int) (w : World) : (binOp .eql 25 (.agg #[.int .i64 p, .int .i64 q]) (.agg #[.int .i64 r, .int .i64 s])).run Try.prog w = .ok (.bool (decide (p = r ∧ q = s))) w := by
  by_cases h1 : p = r
  · subst h1
    by_cases h2 : q = s
    · subst h2; simp [go_sem]
    · have e : (q == s) = false := beq_eq_false_iff_ne.2 h2
      simp [go_sem, h2, e]
  · have e : (p == r) = false := beq_eq_false_iff_ne.2 h1
    simp [go_sem, h1, e]

set_option maxHeartbeats 1000000 in
theorem ecSame_any (a b c d : Int) (w : World) (ha : -1000 ≤ a ∧ a ≤ 1000) (hb : -10000 ≤ b ∧ b ≤ 10000) (hc : -1000 ≤ c ∧ c ≤ 1000) (hd : -10000 ≤ d ∧ d ≤ 10000) (ok : Bool) (hok : ok = decide (ecSA a b = ecSA c d ∧ ecSB a b = ecSB c d)) : Calls Try.prog 46 #[.agg #[.int .i64 a, .int .i64 b], .agg #[.int .i64 c, .int .i64 d]] w (GivesB w ok) := by
  obtain ⟨PA, hPA⟩ : ∃ z, ecSA a b = z := ⟨_, rfl⟩
  obtain ⟨PB, hPB⟩ : ∃ z, ecSB a b = z := ⟨_, rfl⟩
  obtain ⟨PU, hPU⟩ : ∃ z, ecU a b = z := ⟨_, rfl⟩
  obtain ⟨QA, hQA⟩ : ∃ z, ecSA c d = z := ⟨_, rfl⟩
  obtain ⟨QB, hQB⟩ : ∃ z, ecSB c d = z := ⟨_, rfl⟩
  obtain ⟨QU, hQU⟩ : ∃ z, ecU c d = z := ⟨_, rfl⟩
  have k1 := fun W => ecSmall_any a b W ha hb
  have k2 := fun W => ecSmall_any c d W hc hd
  rw [hPA, hPB, hQA, hQB] at hok
  rw [hPA, hPB, hPU] at k1
  rw [hQA, hQB, hQU] at k2
  have qe := fun W => eql_curve PA PB QA QB W
  rw [← hok] at qe
  replace k1 := Lib.hid k1
  replace k2 := Lib.hid k2
  clear hPA hPB hPU hQA hQB hQU hok
  have h := Below.refl w.heap.size w
  have hA := below_alloc1 w (.cells #[.int .i64 a, .int .i64 b] 25)
  have hx0 := Box.new w 25 #[.int .i64 a, .int .i64 b]
  replace h := Below.step h hA
  clear hA
  have hA := below_alloc1 (w.alloc (.cells #[.int .i64 a, .int .i64 b] 25)) (.cells #[.int .i64 c, .int .i64 d] 25)
  have hx1 := Box.new (w.alloc (.cells #[.int .i64 a, .int .i64 b] 25)) 25 #[.int .i64 c, .int .i64 d]
  rw [show (w.alloc (.cells #[.int .i64 a, .int .i64 b] 25)).heap.size = w.heap.size + 1 from by simp] at hx1
  replace h := Below.step h hA
  replace hx0 := hx0.kept hA
  clear hA
  obtain ⟨k00, k01⟩ := hx0.two
  have l0 := hx0.lt
  obtain ⟨k10, k11⟩ := hx1.two
  have l1 := hx1.lt
  go_enter Try.func46, Try.ntmps46
  go_wp2_with fail
  refine (k1.out _).mono ?_
  rintro e w1 ⟨rfl, hb⟩
  replace h := Below.step h hb
  replace hx0 := hx0.kept hb
  replace hx1 := hx1.kept hb
  clear hb k00 k01 l0 k10 k11 l1
  obtain ⟨k00, k01⟩ := hx0.two
  have l0 := hx0.lt
  obtain ⟨k10, k11⟩ := hx1.two
  have l1 := hx1.lt
  go_wp2_with fail
  have hA := below_alloc1 w1 (.cells #[.int .i64 PA, .int .i64 PB] 25)
  have hxv := Box.new w1 25 #[.int .i64 PA, .int .i64 PB]
  replace h := Below.step h hA
  replace hx0 := hx0.kept hA
  replace hx1 := hx1.kept hA
  clear hA k00 k01 l0 k10 k11 l1
  generalize w1.alloc (.cells #[.int .i64 PA, .int .i64 PB] 25) = w2 at *
  generalize w1.heap.size = gv at hxv ⊢
  obtain ⟨k00, k01⟩ := hx0.two
  have l0 := hx0.lt
  obtain ⟨k10, k11⟩ := hx1.two
  have l1 := hx1.lt
  obtain ⟨kv0, kv1⟩ := hxv.two
  have lv := hxv.lt
  refine (k2.out _).mono ?_
  rintro e w3 ⟨rfl, hb⟩
  replace h := Below.step h hb
  replace hx0 := hx0.kept hb
  replace hx1 := hx1.kept hb
  replace hxv := hxv.kept hb
  clear hb k00 k01 l0 k10 k11 l1 kv0 kv1 lv
  obtain ⟨k00, k01⟩ := hx0.two
  have l0 := hx0.lt
  obtain ⟨k10, k11⟩ := hx1.two
  have l1 := hx1.lt
  obtain ⟨kv0, kv1⟩ := hxv.two
  have lv := hxv.lt
  go_wp2_with fail
  go_ret
  exact ⟨rfl, Below.step h (below_alloc1 _ _)⟩


set_option maxHeartbeats 1000000 in
theorem isoS_yes (a b c d : Int) (w : World) (g : EcG a b) (g2 : EcG c d) (ok : Bool) (hok : ok = decide (ecSA a b = ecSA c d ∧ ecSB a b = ecSB c d)) : Calls Try.prog 25 #[.agg #[.int .i64 a, .int .i64 b], .agg #[.int .i64 c, .int .i64 d]] w (GivesBB w ok true) := by
  have key := fun W => ecSame_any a b c d W g.1 g.2.1 g2.1 g2.2.1 ok hok
  replace key := Lib.hid key
  clear hok
  have h := Below.refl w.heap.size w
  have hA := below_alloc1 w (.cells #[.int .i64 a, .int .i64 b] 25)
  have hx0 := Box.new w 25 #[.int .i64 a, .int .i64 b]
  replace h := Below.step h hA
  clear hA
  have hA := below_alloc1 (w.alloc (.cells #[.int .i64 a, .int .i64 b] 25)) (.cells #[.int .i64 c, .int .i64 d] 25)
  have hx1 := Box.new (w.alloc (.cells #[.int .i64 a, .int .i64 b] 25)) 25 #[.int .i64 c, .int .i64 d]
  rw [show (w.alloc (.cells #[.int .i64 a, .int .i64 b] 25)).heap.size = w.heap.size + 1 from by simp] at hx1
  replace h := Below.step h hA
  replace hx0 := hx0.kept hA
  clear hA
  obtain ⟨k00, k01⟩ := hx0.two
  have l0 := hx0.lt
  obtain ⟨k10, k11⟩ := hx1.two
  have l1 := hx1.lt
  go_enter Try.func25, Try.ntmps25
  go_wp2_with fail
  refine (ecGood_yes a b _ g).mono ?_
  rintro e w1 ⟨rfl, hb⟩
  replace h := Below.step h hb
  replace hx0 := hx0.kept hb
  replace hx1 := hx1.kept hb
  clear hb k00 k01 l0 k10 k11 l1
  obtain ⟨k00, k01⟩ := hx0.two
  have l0 := hx0.lt
  obtain ⟨k10, k11⟩ := hx1.two
  have l1 := hx1.lt
  go_wp2_with fail
  refine (ecGood_yes c d _ g2).mono ?_
  rintro e w2 ⟨rfl, hb⟩
  replace h := Below.step h hb
  replace hx0 := hx0.kept hb
  replace hx1 := hx1.kept hb
  clear hb k00 k01 l0 k10 k11 l1
  obtain ⟨k00, k01⟩ := hx0.two
  have l0 := hx0.lt
  obtain ⟨k10, k11⟩ := hx1.two
  have l1 := hx1.lt
  go_wp2_with fail
  refine (key.out _).mono ?_
  rintro e w3 ⟨rfl, hb⟩
  replace h := Below.step h hb
  replace hx0 := hx0.kept hb
  replace hx1 := hx1.kept hb
  clear hb k00 k01 l0 k10 k11 l1
  obtain ⟨k00, k01⟩ := hx0.two
  have l0 := hx0.lt
  obtain ⟨k10, k11⟩ := hx1.two
  have l1 := hx1.lt
  go_wp2_with fail
  go_ret2
  exact ⟨rfl, h⟩


set_option maxHeartbeats 1000000 in
theorem isoS_bad1 (a b c d : Int) (w : World) (g : ¬ EcG a b) : Calls Try.prog 25 #[.agg #[.int .i64 a, .int .i64 b], .agg #[.int .i64 c, .int .i64 d]] w (GivesBB w false false) := by
  have h := Below.refl w.heap.size w
  have hA := below_alloc1 w (.cells #[.int .i64 a, .int .i64 b] 25)
  have hx0 := Box.new w 25 #[.int .i64 a, .int .i64 b]
  replace h := Below.step h hA
  clear hA
  have hA := below_alloc1 (w.alloc (.cells #[.int .i64 a, .int .i64 b] 25)) (.cells #[.int .i64 c, .int .i64 d] 25)
  have hx1 := Box.new (w.alloc (.cells #[.int .i64 a, .int .i64 b] 25)) 25 #[.int .i64 c, .int .i64 d]
  rw [show (w.alloc (.cells #[.int .i64 a, .int .i64 b] 25)).heap.size = w.heap.size + 1 from by simp] at hx1
  replace h := Below.step h hA
  replace hx0 := hx0.kept hA
  clear hA
  obtain ⟨k00, k01⟩ := hx0.two
  have l0 := hx0.lt
  obtain ⟨k10, k11⟩ := hx1.two
  have l1 := hx1.lt
  go_enter Try.func25, Try.ntmps25
  go_wp2_with fail
  refine (ecGood_no a b _ g).mono ?_
  rintro e w1 ⟨rfl, hb⟩
  replace h := Below.step h hb
  replace hx0 := hx0.kept hb
  replace hx1 := hx1.kept hb
  clear hb k00 k01 l0 k10 k11 l1
  obtain ⟨k00, k01⟩ := hx0.two
  have l0 := hx0.lt
  obtain ⟨k10, k11⟩ := hx1.two
  have l1 := hx1.lt
  go_wp2_with fail
  go_ret2
  exact ⟨rfl, h⟩


set_option maxHeartbeats 1000000 in
theorem isoS_bad2 (a b c d : Int) (w : World) (g : EcG a b) (g2 : ¬ EcG c d) : Calls Try.prog 25 #[.agg #[.int .i64 a, .int .i64 b], .agg #[.int .i64 c, .int .i64 d]] w (GivesBB w false false) := by
  have h := Below.refl w.heap.size w
  have hA := below_alloc1 w (.cells #[.int .i64 a, .int .i64 b] 25)
  have hx0 := Box.new w 25 #[.int .i64 a, .int .i64 b]
  replace h := Below.step h hA
  clear hA
  have hA := below_alloc1 (w.alloc (.cells #[.int .i64 a, .int .i64 b] 25)) (.cells #[.int .i64 c, .int .i64 d] 25)
  have hx1 := Box.new (w.alloc (.cells #[.int .i64 a, .int .i64 b] 25)) 25 #[.int .i64 c, .int .i64 d]
  rw [show (w.alloc (.cells #[.int .i64 a, .int .i64 b] 25)).heap.size = w.heap.size + 1 from by simp] at hx1
  replace h := Below.step h hA
  replace hx0 := hx0.kept hA
  clear hA
  obtain ⟨k00, k01⟩ := hx0.two
  have l0 := hx0.lt
  obtain ⟨k10, k11⟩ := hx1.two
  have l1 := hx1.lt
  go_enter Try.func25, Try.ntmps25
  go_wp2_with fail
  refine (ecGood_yes a b _ g).mono ?_
  rintro e w1 ⟨rfl, hb⟩
  replace h := Below.step h hb
  replace hx0 := hx0.kept hb
  replace hx1 := hx1.kept hb
  clear hb k00 k01 l0 k10 k11 l1
  obtain ⟨k00, k01⟩ := hx0.two
  have l0 := hx0.lt
  obtain ⟨k10, k11⟩ := hx1.two
  have l1 := hx1.lt
  go_wp2_with fail
  refine (ecGood_no c d _ g2).mono ?_
  rintro e w2 ⟨rfl, hb⟩
  replace h := Below.step h hb
  replace hx0 := hx0.kept hb
  replace hx1 := hx1.kept hb
  clear hb k00 k01 l0 k10 k11 l1
  obtain ⟨k00, k01⟩ := hx0.two
  have l0 := hx0.lt
  obtain ⟨k10, k11⟩ := hx1.two
  have l1 := hx1.lt
  go_wp2_with fail
  go_ret2
  exact ⟨rfl, h⟩


set_option maxHeartbeats 1000000 in
theorem isoI_yes (a b c d : Int) (w : World) (g : EcG a b) (g2 : EcG c d) (ok : Bool) (hok : ok = decide (ecSA a b = ecSA c d ∧ ecSB a b = ecSB c d)) : Calls Try.prog 26 #[.agg #[.int .i64 a, .int .i64 b], .agg #[.int .i64 c, .int .i64 d]] w (GivesBB w ok true) := by
  obtain ⟨PA, hPA⟩ : ∃ z, ecSA a b = z := ⟨_, rfl⟩
  obtain ⟨PB, hPB⟩ : ∃ z, ecSB a b = z := ⟨_, rfl⟩
  obtain ⟨PU, hPU⟩ : ∃ z, ecU a b = z := ⟨_, rfl⟩
  obtain ⟨QA, hQA⟩ : ∃ z, ecSA c d = z := ⟨_, rfl⟩
  obtain ⟨QB, hQB⟩ : ∃ z, ecSB c d = z := ⟨_, rfl⟩
  obtain ⟨QU, hQU⟩ : ∃ z, ecU c d = z := ⟨_, rfl⟩
  rw [hPA, hPB, hQA, hQB] at hok
  have qe := fun W => eql_curve PA PB QA QB W
  rw [← hok] at qe
  have k1 := fun W => smallI_yes a b W g
  rw [hPA, hPB, hPU] at k1
  clear hPA hPB hPU
  have k2 := fun W => smallI_yes c d W g2
  rw [hQA, hQB, hQU] at k2
  clear hQA hQB hQU
  clear hok
  replace k1 := Lib.hid k1
  replace k2 := Lib.hid k2
  have h := Below.refl w.heap.size w
  have hA := below_alloc1 w (.cells #[.int .i64 a, .int .i64 b] 25)
  have hx0 := Box.new w 25 #[.int .i64 a, .int .i64 b]
  replace h := Below.step h hA
  clear hA
  have hA := below_alloc1 (w.alloc (.cells #[.int .i64 a, .int .i64 b] 25)) (.cells #[.int .i64 c, .int .i64 d] 25)
  have hx1 := Box.new (w.alloc (.cells #[.int .i64 a, .int .i64 b] 25)) 25 #[.int .i64 c, .int .i64 d]
  rw [show (w.alloc (.cells #[.int .i64 a, .int .i64 b] 25)).heap.size = w.heap.size + 1 from by simp] at hx1
  replace h := Below.step h hA
  replace hx0 := hx0.kept hA
  clear hA
  obtain ⟨k00, k01⟩ := hx0.two
  have l0 := hx0.lt
  obtain ⟨k10, k11⟩ := hx1.two
  have l1 := hx1.lt
  go_enter Try.func26, Try.ntmps26
  go_wp2_with fail
  refine (k1.out _).mono ?_
  rintro e w1 ⟨rfl, hb⟩
  replace h := Below.step h hb
  replace hx0 := hx0.kept hb
  replace hx1 := hx1.kept hb
  clear hb k00 k01 l0 k10 k11 l1
  obtain ⟨k00, k01⟩ := hx0.two
  have l0 := hx0.lt
  obtain ⟨k10, k11⟩ := hx1.two
  have l1 := hx1.lt
  go_wp2_with fail
  have hA := below_alloc1 w1 (.cells #[.int .i64 PA, .int .i64 PB] 25)
  have hxv := Box.new w1 25 #[.int .i64 PA, .int .i64 PB]
  replace h := Below.step h hA
  replace hx0 := hx0.kept hA
  replace hx1 := hx1.kept hA
  clear hA k00 k01 l0 k10 k11 l1
  generalize w1.alloc (.cells #[.int .i64 PA, .int .i64 PB] 25) = w2 at *
  generalize w1.heap.size = gv at hxv ⊢
  obtain ⟨k00, k01⟩ := hx0.two
  have l0 := hx0.lt
  obtain ⟨k10, k11⟩ := hx1.two
  have l1 := hx1.lt
  obtain ⟨kv0, kv1⟩ := hxv.two
  have lv := hxv.lt
  refine (k2.out _).mono ?_
  rintro e w3 ⟨rfl, hb⟩
  replace h := Below.step h hb
  replace hx0 := hx0.kept hb
  replace hx1 := hx1.kept hb
  replace hxv := hxv.kept hb
  clear hb k00 k01 l0 k10 k11 l1 kv0 kv1 lv
  obtain ⟨k00, k01⟩ := hx0.two
  have l0 := hx0.lt
  obtain ⟨k10, k11⟩ := hx1.two
  have l1 := hx1.lt
  obtain ⟨kv0, kv1⟩ := hxv.two
  have lv := hxv.lt
  go_wp2_with fail
  go_ret2
  exact ⟨rfl, Below.step h (below_alloc1 _ _)⟩


set_option maxHeartbeats 1000000 in
theorem isoI_bad1 (a b c d : Int) (w : World) (g : ¬ EcG a b) (g2 : ¬ EcG c d) : Calls Try.prog 26 #[.agg #[.int .i64 a, .int .i64 b], .agg #[.int .i64 c, .int .i64 d]] w (GivesBB w false false) := by
  have k1 := fun W => smallI_bad a b W g
  have k2 := fun W => smallI_bad c d W g2
  replace k1 := Lib.hid k1
  replace k2 := Lib.hid k2
  have h := Below.refl w.heap.size w
  have hA := below_alloc1 w (.cells #[.int .i64 a, .int .i64 b] 25)
  have hx0 := Box.new w 25 #[.int .i64 a, .int .i64 b]
  replace h := Below.step h hA
  clear hA
  have hA := below_alloc1 (w.alloc (.cells #[.int .i64 a, .int .i64 b] 25)) (.cells #[.int .i64 c, .int .i64 d] 25)
  have hx1 := Box.new (w.alloc (.cells #[.int .i64 a, .int .i64 b] 25)) 25 #[.int .i64 c, .int .i64 d]
  rw [show (w.alloc (.cells #[.int .i64 a, .int .i64 b] 25)).heap.size = w.heap.size + 1 from by simp] at hx1
  replace h := Below.step h hA
  replace hx0 := hx0.kept hA
  clear hA
  obtain ⟨k00, k01⟩ := hx0.two
  have l0 := hx0.lt
  obtain ⟨k10, k11⟩ := hx1.two
  have l1 := hx1.lt
  go_enter Try.func26, Try.ntmps26
  go_wp2_with fail
  refine (k1.out _).mono ?_
  rintro e w1 ⟨rfl, hb⟩
  replace h := Below.step h hb
  replace hx0 := hx0.kept hb
  replace hx1 := hx1.kept hb
  clear hb k00 k01 l0 k10 k11 l1
  obtain ⟨k00, k01⟩ := hx0.two
  have l0 := hx0.lt
  obtain ⟨k10, k11⟩ := hx1.two
  have l1 := hx1.lt
  go_wp2_with fail
  have hA := below_alloc1 w1 (.cells #[.int .i64 0, .int .i64 0] 25)
  have hxv := Box.new w1 25 #[.int .i64 0, .int .i64 0]
  replace h := Below.step h hA
  replace hx0 := hx0.kept hA
  replace hx1 := hx1.kept hA
  clear hA k00 k01 l0 k10 k11 l1
  generalize w1.alloc (.cells #[.int .i64 0, .int .i64 0] 25) = w2 at *
  generalize w1.heap.size = gv at hxv ⊢
  obtain ⟨k00, k01⟩ := hx0.two
  have l0 := hx0.lt
  obtain ⟨k10, k11⟩ := hx1.two
  have l1 := hx1.lt
  obtain ⟨kv0, kv1⟩ := hxv.two
  have lv := hxv.lt
  refine (k2.out _).mono ?_
  rintro e w3 ⟨rfl, hb⟩
  replace h := Below.step h hb
  replace hx0 := hx0.kept hb
  replace hx1 := hx1.kept hb
  replace hxv := hxv.kept hb
  clear hb k00 k01 l0 k10 k11 l1 kv0 kv1 lv
  obtain ⟨k00, k01⟩ := hx0.two
  have l0 := hx0.lt
  obtain ⟨k10, k11⟩ := hx1.two
  have l1 := hx1.lt
  obtain ⟨kv0, kv1⟩ := hxv.two
  have lv := hxv.lt
  go_wp2_with fail
  go_ret2
  exact ⟨rfl, Below.step h (below_alloc1 _ _)⟩


set_option maxHeartbeats 1000000 in
theorem isoI_bad3 (a b c d : Int) (w : World) (g : ¬ EcG a b) (g2 : EcG c d) : Calls Try.prog 26 #[.agg #[.int .i64 a, .int .i64 b], .agg #[.int .i64 c, .int .i64 d]] w (GivesBB w false false) := by
  obtain ⟨QA, hQA⟩ : ∃ z, ecSA c d = z := ⟨_, rfl⟩
  obtain ⟨QB, hQB⟩ : ∃ z, ecSB c d = z := ⟨_, rfl⟩
  obtain ⟨QU, hQU⟩ : ∃ z, ecU c d = z := ⟨_, rfl⟩
  have k1 := fun W => smallI_bad a b W g
  have k2 := fun W => smallI_yes c d W g2
  rw [hQA, hQB, hQU] at k2
  clear hQA hQB hQU
  replace k1 := Lib.hid k1
  replace k2 := Lib.hid k2
  have h := Below.refl w.heap.size w
  have hA := below_alloc1 w (.cells #[.int .i64 a, .int .i64 b] 25)
  have hx0 := Box.new w 25 #[.int .i64 a, .int .i64 b]
  replace h := Below.step h hA
  clear hA
  have hA := below_alloc1 (w.alloc (.cells #[.int .i64 a, .int .i64 b] 25)) (.cells #[.int .i64 c, .int .i64 d] 25)
  have hx1 := Box.new (w.alloc (.cells #[.int .i64 a, .int .i64 b] 25)) 25 #[.int .i64 c, .int .i64 d]
  rw [show (w.alloc (.cells #[.int .i64 a, .int .i64 b] 25)).heap.size = w.heap.size + 1 from by simp] at hx1
  replace h := Below.step h hA
  replace hx0 := hx0.kept hA
  clear hA
  obtain ⟨k00, k01⟩ := hx0.two
  have l0 := hx0.lt
  obtain ⟨k10, k11⟩ := hx1.two
  have l1 := hx1.lt
  go_enter Try.func26, Try.ntmps26
  go_wp2_with fail
  refine (k1.out _).mono ?_
  rintro e w1 ⟨rfl, hb⟩
  replace h := Below.step h hb
  replace hx0 := hx0.kept hb
  replace hx1 := hx1.kept hb
  clear hb k00 k01 l0 k10 k11 l1
  obtain ⟨k00, k01⟩ := hx0.two
  have l0 := hx0.lt
  obtain ⟨k10, k11⟩ := hx1.two
  have l1 := hx1.lt
  go_wp2_with fail
  have hA := below_alloc1 w1 (.cells #[.int .i64 0, .int .i64 0] 25)
  have hxv := Box.new w1 25 #[.int .i64 0, .int .i64 0]
  replace h := Below.step h hA
  replace hx0 := hx0.kept hA
  replace hx1 := hx1.kept hA
  clear hA k00 k01 l0 k10 k11 l1
  generalize w1.alloc (.cells #[.int .i64 0, .int .i64 0] 25) = w2 at *
  generalize w1.heap.size = gv at hxv ⊢
  obtain ⟨k00, k01⟩ := hx0.two
  have l0 := hx0.lt
  obtain ⟨k10, k11⟩ := hx1.two
  have l1 := hx1.lt
  obtain ⟨kv0, kv1⟩ := hxv.two
  have lv := hxv.lt
  refine (k2.out _).mono ?_
  rintro e w3 ⟨rfl, hb⟩
  replace h := Below.step h hb
  replace hx0 := hx0.kept hb
  replace hx1 := hx1.kept hb
  replace hxv := hxv.kept hb
  clear hb k00 k01 l0 k10 k11 l1 kv0 kv1 lv
  obtain ⟨k00, k01⟩ := hx0.two
  have l0 := hx0.lt
  obtain ⟨k10, k11⟩ := hx1.two
  have l1 := hx1.lt
  obtain ⟨kv0, kv1⟩ := hxv.two
  have lv := hxv.lt
  go_wp2_with fail
  go_ret2
  exact ⟨rfl, Below.step h (below_alloc1 _ _)⟩


set_option maxHeartbeats 1000000 in
theorem isoI_bad2 (a b c d : Int) (w : World) (g : EcG a b) (g2 : ¬ EcG c d) : Calls Try.prog 26 #[.agg #[.int .i64 a, .int .i64 b], .agg #[.int .i64 c, .int .i64 d]] w (GivesBB w false false) := by
  obtain ⟨PA, hPA⟩ : ∃ z, ecSA a b = z := ⟨_, rfl⟩
  obtain ⟨PB, hPB⟩ : ∃ z, ecSB a b = z := ⟨_, rfl⟩
  obtain ⟨PU, hPU⟩ : ∃ z, ecU a b = z := ⟨_, rfl⟩
  have k1 := fun W => smallI_yes a b W g
  rw [hPA, hPB, hPU] at k1
  clear hPA hPB hPU
  have k2 := fun W => smallI_bad c d W g2
  replace k1 := Lib.hid k1
  replace k2 := Lib.hid k2
  have h := Below.refl w.heap.size w
  have hA := below_alloc1 w (.cells #[.int .i64 a, .int .i64 b] 25)
  have hx0 := Box.new w 25 #[.int .i64 a, .int .i64 b]
  replace h := Below.step h hA
  clear hA
  have hA := below_alloc1 (w.alloc (.cells #[.int .i64 a, .int .i64 b] 25)) (.cells #[.int .i64 c, .int .i64 d] 25)
  have hx1 := Box.new (w.alloc (.cells #[.int .i64 a, .int .i64 b] 25)) 25 #[.int .i64 c, .int .i64 d]
  rw [show (w.alloc (.cells #[.int .i64 a, .int .i64 b] 25)).heap.size = w.heap.size + 1 from by simp] at hx1
  replace h := Below.step h hA
  replace hx0 := hx0.kept hA
  clear hA
  obtain ⟨k00, k01⟩ := hx0.two
  have l0 := hx0.lt
  obtain ⟨k10, k11⟩ := hx1.two
  have l1 := hx1.lt
  go_enter Try.func26, Try.ntmps26
  go_wp2_with fail
  refine (k1.out _).mono ?_
  rintro e w1 ⟨rfl, hb⟩
  replace h := Below.step h hb
  replace hx0 := hx0.kept hb
  replace hx1 := hx1.kept hb
  clear hb k00 k01 l0 k10 k11 l1
  obtain ⟨k00, k01⟩ := hx0.two
  have l0 := hx0.lt
  obtain ⟨k10, k11⟩ := hx1.two
  have l1 := hx1.lt
  go_wp2_with fail
  have hA := below_alloc1 w1 (.cells #[.int .i64 PA, .int .i64 PB] 25)
  have hxv := Box.new w1 25 #[.int .i64 PA, .int .i64 PB]
  replace h := Below.step h hA
  replace hx0 := hx0.kept hA
  replace hx1 := hx1.kept hA
  clear hA k00 k01 l0 k10 k11 l1
  generalize w1.alloc (.cells #[.int .i64 PA, .int .i64 PB] 25) = w2 at *
  generalize w1.heap.size = gv at hxv ⊢
  obtain ⟨k00, k01⟩ := hx0.two
  have l0 := hx0.lt
  obtain ⟨k10, k11⟩ := hx1.two
  have l1 := hx1.lt
  obtain ⟨kv0, kv1⟩ := hxv.two
  have lv := hxv.lt
  refine (k2.out _).mono ?_
  rintro e w3 ⟨rfl, hb⟩
  replace h := Below.step h hb
  replace hx0 := hx0.kept hb
  replace hx1 := hx1.kept hb
  replace hxv := hxv.kept hb
  clear hb k00 k01 l0 k10 k11 l1 kv0 kv1 lv
  obtain ⟨k00, k01⟩ := hx0.two
  have l0 := hx0.lt
  obtain ⟨k10, k11⟩ := hx1.two
  have l1 := hx1.lt
  obtain ⟨kv0, kv1⟩ := hxv.two
  have lv := hxv.lt
  go_wp2_with fail
  go_ret2
  exact ⟨rfl, Below.step h (below_alloc1 _ _)⟩

end Go.Proofs.Ytmknmjkcnlennaa
