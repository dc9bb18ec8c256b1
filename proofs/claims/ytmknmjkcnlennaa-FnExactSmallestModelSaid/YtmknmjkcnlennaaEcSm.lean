/- ecSmallest of the model (written by wip/gen/ecsm.py). -/
import Derived.Test.YtmknmjkcnlennaaEcS
import Derived.Test.YtmknmjkcnlennaaEcSc
namespace Go.Proofs.Ytmknmjkcnlennaa
open Go.RowKit Go.Joins

/-- The greatest u of 2 .. k + 1 that fits. -/
def ecB (a b : Int) : Nat → Int
  | 0 => 1
  | 1 => if ecS a b 16 64 then 2 else 1
  | 2 => if ecS a b 81 729 then 3 else if ecS a b 16 64 then 2 else 1
  | 3 => if ecS a b 256 4096 then 4 else if ecS a b 81 729 then 3 else if ecS a b 16 64 then 2 else 1
  | _ => ecU a b
theorem ecB_1 (a b : Int) : ecB a b 1 = if ecS a b 16 64 then 2 else ecB a b 0 := rfl
theorem ecB_2 (a b : Int) : ecB a b 2 = if ecS a b 81 729 then 3 else ecB a b 1 := rfl
theorem ecB_3 (a b : Int) : ecB a b 3 = if ecS a b 256 4096 then 4 else ecB a b 2 := rfl
theorem ecB_4 (a b : Int) : ecB a b 4 = if ecS a b 625 15625 then 5 else ecB a b 3 := rfl
theorem ecU_cases (a b : Int) : (ecU a b = 5 ∧ ecSA a b = a.tdiv 625 ∧ ecSB a b = b.tdiv 15625) ∨ (ecU a b = 4 ∧ ecSA a b = a.tdiv 256 ∧ ecSB a b = b.tdiv 4096) ∨ (ecU a b = 3 ∧ ecSA a b = a.tdiv 81 ∧ ecSB a b = b.tdiv 729) ∨ (ecU a b = 2 ∧ ecSA a b = a.tdiv 16 ∧ ecSB a b = b.tdiv 64) ∨ (ecU a b = 1 ∧ ecSA a b = a ∧ ecSB a b = b) := by
  unfold ecU ecSA ecSB
  by_cases h5 : ecS a b 625 15625
  · exact .inl ⟨if_pos h5, if_pos h5, if_pos h5⟩
  · rw [if_neg h5, if_neg h5, if_neg h5]
    by_cases h4 : ecS a b 256 4096
    · exact .inr (.inl ⟨if_pos h4, if_pos h4, if_pos h4⟩)
    · rw [if_neg h4, if_neg h4, if_neg h4]
      by_cases h3 : ecS a b 81 729
      · exact .inr (.inr (.inl ⟨if_pos h3, if_pos h3, if_pos h3⟩))
      · rw [if_neg h3, if_neg h3, if_neg h3]
        by_cases h2 : ecS a b 16 64
        · exact .inr (.inr (.inr (.inl ⟨if_pos h2, if_pos h2, if_pos h2⟩)))
        · exact .inr (.inr (.inr (.inr ⟨if_neg h2, if_neg h2, if_neg h2⟩)))

set_option maxHeartbeats 2000000 in
theorem ecSmall_5 (a b : Int) (w : World) (ha : -1000 ≤ a ∧ a ≤ 1000) (hb : -10000 ≤ b ∧ b ≤ 10000) (hU : ecB a b 4 = 5) : Calls Try.prog 45 #[.agg #[.int .i64 a, .int .i64 b]] w (GivesFI w (a.tdiv 625) (b.tdiv 15625) 5) := by
  replace hU := Lib.hid hU
  have h := Below.refl w.heap.size w
  have hA := below_alloc1 w (.cells #[.int .i64 a, .int .i64 b] 25)
  have hx0 := Box.new w 25 #[.int .i64 a, .int .i64 b]
  replace h := Below.step h hA
  clear hA
  have hA := below_alloc1 (w.alloc (.cells #[.int .i64 a, .int .i64 b] 25)) (.cells #[.int .i64 0, .int .i64 0] 25)
  have hxr := Box.new (w.alloc (.cells #[.int .i64 a, .int .i64 b] 25)) 25 #[.int .i64 0, .int .i64 0]
  rw [show (w.alloc (.cells #[.int .i64 a, .int .i64 b] 25)).heap.size = w.heap.size + 1 from by simp] at hxr
  replace h := Below.step h hA
  replace hx0 := hx0.kept hA
  clear hA
  obtain ⟨k00, k01⟩ := hx0.two
  have l0 := hx0.lt
  obtain ⟨kr0, kr1⟩ := hxr.two
  have lr := hxr.lt
  go_enter Try.func45, Try.ntmps45
  go_wp2_with fail
  go_loop [4, 5] (fun y x => ∃ (k : Nat) (B : Int), k ≤ 4 ∧ x = .int .i64 ((k : Int) + 2) ∧ y = .int .i64 B ∧ Hid (B = ecB a b k)) (fun _ x => 10 - (intOf x).toNat)
  case atStart => exact ⟨0, 1, by omega, rfl, rfl, rfl⟩
  case round =>
    obtain ⟨k, B, hk, rfl, rfl, hB⟩ := hrel
    rcases (show k = 0 ∨ k = 1 ∨ k = 2 ∨ k = 3 ∨ k = 4 by omega) with rfl | rfl | rfl | rfl | rfl
    · by_cases hs : ecS a b 16 64
      · obtain ⟨m1, m2⟩ := id hs
        have hn : Hid ((2 : Int) = ecB a b 1) := by show _ = _; rw [ecB_1, if_pos hs]
        clear hs hB hU
        go_wp2_with fail
        go_round
        case rel => exact ⟨1, 2, by omega, rfl, rfl, hn⟩
        case measure => simp [intOf]
      · have hn : Hid (B = ecB a b 1) := by show _ = _; rw [ecB_1, if_neg hs]; exact hB.out
        by_cases m1 : a.tmod 16 = 0
        · have m2 : (b.tmod 64 == 0) = false := by rw [beq_eq_false_iff_ne]; exact fun e => hs ⟨m1, e⟩
          clear hs hB hU
          go_wp2_with fail
          go_round
          case rel => exact ⟨1, B, by omega, rfl, rfl, hn⟩
          case measure => simp [intOf]
        · have m2 : (a.tmod 16 == 0) = false := by rw [beq_eq_false_iff_ne]; exact m1
          clear hs hB hU m1
          go_wp2_with fail
          go_round
          case rel => exact ⟨1, B, by omega, rfl, rfl, hn⟩
          case measure => simp [intOf]
    · by_cases hs : ecS a b 81 729
      · obtain ⟨m1, m2⟩ := id hs
        have hn : Hid ((3 : Int) = ecB a b 2) := by show _ = _; rw [ecB_2, if_pos hs]
        clear hs hB hU
        go_wp2_with fail
        go_round
        case rel => exact ⟨2, 3, by omega, rfl, rfl, hn⟩
        case measure => simp [intOf]
      · have hn : Hid (B = ecB a b 2) := by show _ = _; rw [ecB_2, if_neg hs]; exact hB.out
        by_cases m1 : a.tmod 81 = 0
        · have m2 : (b.tmod 729 == 0) = false := by rw [beq_eq_false_iff_ne]; exact fun e => hs ⟨m1, e⟩
          clear hs hB hU
          go_wp2_with fail
          go_round
          case rel => exact ⟨2, B, by omega, rfl, rfl, hn⟩
          case measure => simp [intOf]
        · have m2 : (a.tmod 81 == 0) = false := by rw [beq_eq_false_iff_ne]; exact m1
          clear hs hB hU m1
          go_wp2_with fail
          go_round
          case rel => exact ⟨2, B, by omega, rfl, rfl, hn⟩
          case measure => simp [intOf]
    · by_cases hs : ecS a b 256 4096
      · obtain ⟨m1, m2⟩ := id hs
        have hn : Hid ((4 : Int) = ecB a b 3) := by show _ = _; rw [ecB_3, if_pos hs]
        clear hs hB hU
        go_wp2_with fail
        go_round
        case rel => exact ⟨3, 4, by omega, rfl, rfl, hn⟩
        case measure => simp [intOf]
      · have hn : Hid (B = ecB a b 3) := by show _ = _; rw [ecB_3, if_neg hs]; exact hB.out
        by_cases m1 : a.tmod 256 = 0
        · have m2 : (b.tmod 4096 == 0) = false := by rw [beq_eq_false_iff_ne]; exact fun e => hs ⟨m1, e⟩
          clear hs hB hU
          go_wp2_with fail
          go_round
          case rel => exact ⟨3, B, by omega, rfl, rfl, hn⟩
          case measure => simp [intOf]
        · have m2 : (a.tmod 256 == 0) = false := by rw [beq_eq_false_iff_ne]; exact m1
          clear hs hB hU m1
          go_wp2_with fail
          go_round
          case rel => exact ⟨3, B, by omega, rfl, rfl, hn⟩
          case measure => simp [intOf]
    · by_cases hs : ecS a b 625 15625
      · obtain ⟨m1, m2⟩ := id hs
        have hn : Hid ((5 : Int) = ecB a b 4) := by show _ = _; rw [ecB_4, if_pos hs]
        clear hs hB hU
        go_wp2_with fail
        go_round
        case rel => exact ⟨4, 5, by omega, rfl, rfl, hn⟩
        case measure => simp [intOf]
      · have hn : Hid (B = ecB a b 4) := by show _ = _; rw [ecB_4, if_neg hs]; exact hB.out
        by_cases m1 : a.tmod 625 = 0
        · have m2 : (b.tmod 15625 == 0) = false := by rw [beq_eq_false_iff_ne]; exact fun e => hs ⟨m1, e⟩
          clear hs hB hU
          go_wp2_with fail
          go_round
          case rel => exact ⟨4, B, by omega, rfl, rfl, hn⟩
          case measure => simp [intOf]
        · have m2 : (a.tmod 625 == 0) = false := by rw [beq_eq_false_iff_ne]; exact m1
          clear hs hB hU m1
          go_wp2_with fail
          go_round
          case rel => exact ⟨4, B, by omega, rfl, rfl, hn⟩
          case measure => simp [intOf]
    · obtain rfl : B = 5 := hB.out.trans hU.out
      clear hB hU
      have t1 := tdiv_bd (d := 625) ha.1 ha.2
      have t2 := tdiv_bd (d := 15625) hb.1 hb.2
      go_wp2_with fail
      go_region
      go_wp2_with fail
      refine bodyPost_ret (v := .tuple #[.agg #[.int .i64 (a.tdiv 625), .int .i64 (b.tdiv 15625)], .int .i64 5]) (by simp [results, Try.results45, go_sem]) (by rfl) ⟨by rfl, ?_⟩
      first | exact below_alloc2 _ _ _ | exact Below.drewN' (below_alloc2 _ _ _) 1


set_option maxHeartbeats 2000000 in
theorem ecSmall_4 (a b : Int) (w : World) (ha : -1000 ≤ a ∧ a ≤ 1000) (hb : -10000 ≤ b ∧ b ≤ 10000) (hU : ecB a b 4 = 4) : Calls Try.prog 45 #[.agg #[.int .i64 a, .int .i64 b]] w (GivesFI w (a.tdiv 256) (b.tdiv 4096) 4) := by
  replace hU := Lib.hid hU
  have h := Below.refl w.heap.size w
  have hA := below_alloc1 w (.cells #[.int .i64 a, .int .i64 b] 25)
  have hx0 := Box.new w 25 #[.int .i64 a, .int .i64 b]
  replace h := Below.step h hA
  clear hA
  have hA := below_alloc1 (w.alloc (.cells #[.int .i64 a, .int .i64 b] 25)) (.cells #[.int .i64 0, .int .i64 0] 25)
  have hxr := Box.new (w.alloc (.cells #[.int .i64 a, .int .i64 b] 25)) 25 #[.int .i64 0, .int .i64 0]
  rw [show (w.alloc (.cells #[.int .i64 a, .int .i64 b] 25)).heap.size = w.heap.size + 1 from by simp] at hxr
  replace h := Below.step h hA
  replace hx0 := hx0.kept hA
  clear hA
  obtain ⟨k00, k01⟩ := hx0.two
  have l0 := hx0.lt
  obtain ⟨kr0, kr1⟩ := hxr.two
  have lr := hxr.lt
  go_enter Try.func45, Try.ntmps45
  go_wp2_with fail
  go_loop [4, 5] (fun y x => ∃ (k : Nat) (B : Int), k ≤ 4 ∧ x = .int .i64 ((k : Int) + 2) ∧ y = .int .i64 B ∧ Hid (B = ecB a b k)) (fun _ x => 10 - (intOf x).toNat)
  case atStart => exact ⟨0, 1, by omega, rfl, rfl, rfl⟩
  case round =>
    obtain ⟨k, B, hk, rfl, rfl, hB⟩ := hrel
    rcases (show k = 0 ∨ k = 1 ∨ k = 2 ∨ k = 3 ∨ k = 4 by omega) with rfl | rfl | rfl | rfl | rfl
    · by_cases hs : ecS a b 16 64
      · obtain ⟨m1, m2⟩ := id hs
        have hn : Hid ((2 : Int) = ecB a b 1) := by show _ = _; rw [ecB_1, if_pos hs]
        clear hs hB hU
        go_wp2_with fail
        go_round
        case rel => exact ⟨1, 2, by omega, rfl, rfl, hn⟩
        case measure => simp [intOf]
      · have hn : Hid (B = ecB a b 1) := by show _ = _; rw [ecB_1, if_neg hs]; exact hB.out
        by_cases m1 : a.tmod 16 = 0
        · have m2 : (b.tmod 64 == 0) = false := by rw [beq_eq_false_iff_ne]; exact fun e => hs ⟨m1, e⟩
          clear hs hB hU
          go_wp2_with fail
          go_round
          case rel => exact ⟨1, B, by omega, rfl, rfl, hn⟩
          case measure => simp [intOf]
        · have m2 : (a.tmod 16 == 0) = false := by rw [beq_eq_false_iff_ne]; exact m1
          clear hs hB hU m1
          go_wp2_with fail
          go_round
          case rel => exact ⟨1, B, by omega, rfl, rfl, hn⟩
          case measure => simp [intOf]
    · by_cases hs : ecS a b 81 729
      · obtain ⟨m1, m2⟩ := id hs
        have hn : Hid ((3 : Int) = ecB a b 2) := by show _ = _; rw [ecB_2, if_pos hs]
        clear hs hB hU
        go_wp2_with fail
        go_round
        case rel => exact ⟨2, 3, by omega, rfl, rfl, hn⟩
        case measure => simp [intOf]
      · have hn : Hid (B = ecB a b 2) := by show _ = _; rw [ecB_2, if_neg hs]; exact hB.out
        by_cases m1 : a.tmod 81 = 0
        · have m2 : (b.tmod 729 == 0) = false := by rw [beq_eq_false_iff_ne]; exact fun e => hs ⟨m1, e⟩
          clear hs hB hU
          go_wp2_with fail
          go_round
          case rel => exact ⟨2, B, by omega, rfl, rfl, hn⟩
          case measure => simp [intOf]
        · have m2 : (a.tmod 81 == 0) = false := by rw [beq_eq_false_iff_ne]; exact m1
          clear hs hB hU m1
          go_wp2_with fail
          go_round
          case rel => exact ⟨2, B, by omega, rfl, rfl, hn⟩
          case measure => simp [intOf]
    · by_cases hs : ecS a b 256 4096
      · obtain ⟨m1, m2⟩ := id hs
        have hn : Hid ((4 : Int) = ecB a b 3) := by show _ = _; rw [ecB_3, if_pos hs]
        clear hs hB hU
        go_wp2_with fail
        go_round
        case rel => exact ⟨3, 4, by omega, rfl, rfl, hn⟩
        case measure => simp [intOf]
      · have hn : Hid (B = ecB a b 3) := by show _ = _; rw [ecB_3, if_neg hs]; exact hB.out
        by_cases m1 : a.tmod 256 = 0
        · have m2 : (b.tmod 4096 == 0) = false := by rw [beq_eq_false_iff_ne]; exact fun e => hs ⟨m1, e⟩
          clear hs hB hU
          go_wp2_with fail
          go_round
          case rel => exact ⟨3, B, by omega, rfl, rfl, hn⟩
          case measure => simp [intOf]
        · have m2 : (a.tmod 256 == 0) = false := by rw [beq_eq_false_iff_ne]; exact m1
          clear hs hB hU m1
          go_wp2_with fail
          go_round
          case rel => exact ⟨3, B, by omega, rfl, rfl, hn⟩
          case measure => simp [intOf]
    · by_cases hs : ecS a b 625 15625
      · obtain ⟨m1, m2⟩ := id hs
        have hn : Hid ((5 : Int) = ecB a b 4) := by show _ = _; rw [ecB_4, if_pos hs]
        clear hs hB hU
        go_wp2_with fail
        go_round
        case rel => exact ⟨4, 5, by omega, rfl, rfl, hn⟩
        case measure => simp [intOf]
      · have hn : Hid (B = ecB a b 4) := by show _ = _; rw [ecB_4, if_neg hs]; exact hB.out
        by_cases m1 : a.tmod 625 = 0
        · have m2 : (b.tmod 15625 == 0) = false := by rw [beq_eq_false_iff_ne]; exact fun e => hs ⟨m1, e⟩
          clear hs hB hU
          go_wp2_with fail
          go_round
          case rel => exact ⟨4, B, by omega, rfl, rfl, hn⟩
          case measure => simp [intOf]
        · have m2 : (a.tmod 625 == 0) = false := by rw [beq_eq_false_iff_ne]; exact m1
          clear hs hB hU m1
          go_wp2_with fail
          go_round
          case rel => exact ⟨4, B, by omega, rfl, rfl, hn⟩
          case measure => simp [intOf]
    · obtain rfl : B = 4 := hB.out.trans hU.out
      clear hB hU
      have t1 := tdiv_bd (d := 256) ha.1 ha.2
      have t2 := tdiv_bd (d := 4096) hb.1 hb.2
      go_wp2_with fail
      go_region
      go_wp2_with fail
      refine bodyPost_ret (v := .tuple #[.agg #[.int .i64 (a.tdiv 256), .int .i64 (b.tdiv 4096)], .int .i64 4]) (by simp [results, Try.results45, go_sem]) (by rfl) ⟨by rfl, ?_⟩
      first | exact below_alloc2 _ _ _ | exact Below.drewN' (below_alloc2 _ _ _) 1


set_option maxHeartbeats 2000000 in
theorem ecSmall_3 (a b : Int) (w : World) (ha : -1000 ≤ a ∧ a ≤ 1000) (hb : -10000 ≤ b ∧ b ≤ 10000) (hU : ecB a b 4 = 3) : Calls Try.prog 45 #[.agg #[.int .i64 a, .int .i64 b]] w (GivesFI w (a.tdiv 81) (b.tdiv 729) 3) := by
  replace hU := Lib.hid hU
  have h := Below.refl w.heap.size w
  have hA := below_alloc1 w (.cells #[.int .i64 a, .int .i64 b] 25)
  have hx0 := Box.new w 25 #[.int .i64 a, .int .i64 b]
  replace h := Below.step h hA
  clear hA
  have hA := below_alloc1 (w.alloc (.cells #[.int .i64 a, .int .i64 b] 25)) (.cells #[.int .i64 0, .int .i64 0] 25)
  have hxr := Box.new (w.alloc (.cells #[.int .i64 a, .int .i64 b] 25)) 25 #[.int .i64 0, .int .i64 0]
  rw [show (w.alloc (.cells #[.int .i64 a, .int .i64 b] 25)).heap.size = w.heap.size + 1 from by simp] at hxr
  replace h := Below.step h hA
  replace hx0 := hx0.kept hA
  clear hA
  obtain ⟨k00, k01⟩ := hx0.two
  have l0 := hx0.lt
  obtain ⟨kr0, kr1⟩ := hxr.two
  have lr := hxr.lt
  go_enter Try.func45, Try.ntmps45
  go_wp2_with fail
  go_loop [4, 5] (fun y x => ∃ (k : Nat) (B : Int), k ≤ 4 ∧ x = .int .i64 ((k : Int) + 2) ∧ y = .int .i64 B ∧ Hid (B = ecB a b k)) (fun _ x => 10 - (intOf x).toNat)
  case atStart => exact ⟨0, 1, by omega, rfl, rfl, rfl⟩
  case round =>
    obtain ⟨k, B, hk, rfl, rfl, hB⟩ := hrel
    rcases (show k = 0 ∨ k = 1 ∨ k = 2 ∨ k = 3 ∨ k = 4 by omega) with rfl | rfl | rfl | rfl | rfl
    · by_cases hs : ecS a b 16 64
      · obtain ⟨m1, m2⟩ := id hs
        have hn : Hid ((2 : Int) = ecB a b 1) := by show _ = _; rw [ecB_1, if_pos hs]
        clear hs hB hU
        go_wp2_with fail
        go_round
        case rel => exact ⟨1, 2, by omega, rfl, rfl, hn⟩
        case measure => simp [intOf]
      · have hn : Hid (B = ecB a b 1) := by show _ = _; rw [ecB_1, if_neg hs]; exact hB.out
        by_cases m1 : a.tmod 16 = 0
        · have m2 : (b.tmod 64 == 0) = false := by rw [beq_eq_false_iff_ne]; exact fun e => hs ⟨m1, e⟩
          clear hs hB hU
          go_wp2_with fail
          go_round
          case rel => exact ⟨1, B, by omega, rfl, rfl, hn⟩
          case measure => simp [intOf]
        · have m2 : (a.tmod 16 == 0) = false := by rw [beq_eq_false_iff_ne]; exact m1
          clear hs hB hU m1
          go_wp2_with fail
          go_round
          case rel => exact ⟨1, B, by omega, rfl, rfl, hn⟩
          case measure => simp [intOf]
    · by_cases hs : ecS a b 81 729
      · obtain ⟨m1, m2⟩ := id hs
        have hn : Hid ((3 : Int) = ecB a b 2) := by show _ = _; rw [ecB_2, if_pos hs]
        clear hs hB hU
        go_wp2_with fail
        go_round
        case rel => exact ⟨2, 3, by omega, rfl, rfl, hn⟩
        case measure => simp [intOf]
      · have hn : Hid (B = ecB a b 2) := by show _ = _; rw [ecB_2, if_neg hs]; exact hB.out
        by_cases m1 : a.tmod 81 = 0
        · have m2 : (b.tmod 729 == 0) = false := by rw [beq_eq_false_iff_ne]; exact fun e => hs ⟨m1, e⟩
          clear hs hB hU
          go_wp2_with fail
          go_round
          case rel => exact ⟨2, B, by omega, rfl, rfl, hn⟩
          case measure => simp [intOf]
        · have m2 : (a.tmod 81 == 0) = false := by rw [beq_eq_false_iff_ne]; exact m1
          clear hs hB hU m1
          go_wp2_with fail
          go_round
          case rel => exact ⟨2, B, by omega, rfl, rfl, hn⟩
          case measure => simp [intOf]
    · by_cases hs : ecS a b 256 4096
      · obtain ⟨m1, m2⟩ := id hs
        have hn : Hid ((4 : Int) = ecB a b 3) := by show _ = _; rw [ecB_3, if_pos hs]
        clear hs hB hU
        go_wp2_with fail
        go_round
        case rel => exact ⟨3, 4, by omega, rfl, rfl, hn⟩
        case measure => simp [intOf]
      · have hn : Hid (B = ecB a b 3) := by show _ = _; rw [ecB_3, if_neg hs]; exact hB.out
        by_cases m1 : a.tmod 256 = 0
        · have m2 : (b.tmod 4096 == 0) = false := by rw [beq_eq_false_iff_ne]; exact fun e => hs ⟨m1, e⟩
          clear hs hB hU
          go_wp2_with fail
          go_round
          case rel => exact ⟨3, B, by omega, rfl, rfl, hn⟩
          case measure => simp [intOf]
        · have m2 : (a.tmod 256 == 0) = false := by rw [beq_eq_false_iff_ne]; exact m1
          clear hs hB hU m1
          go_wp2_with fail
          go_round
          case rel => exact ⟨3, B, by omega, rfl, rfl, hn⟩
          case measure => simp [intOf]
    · by_cases hs : ecS a b 625 15625
      · obtain ⟨m1, m2⟩ := id hs
        have hn : Hid ((5 : Int) = ecB a b 4) := by show _ = _; rw [ecB_4, if_pos hs]
        clear hs hB hU
        go_wp2_with fail
        go_round
        case rel => exact ⟨4, 5, by omega, rfl, rfl, hn⟩
        case measure => simp [intOf]
      · have hn : Hid (B = ecB a b 4) := by show _ = _; rw [ecB_4, if_neg hs]; exact hB.out
        by_cases m1 : a.tmod 625 = 0
        · have m2 : (b.tmod 15625 == 0) = false := by rw [beq_eq_false_iff_ne]; exact fun e => hs ⟨m1, e⟩
          clear hs hB hU
          go_wp2_with fail
          go_round
          case rel => exact ⟨4, B, by omega, rfl, rfl, hn⟩
          case measure => simp [intOf]
        · have m2 : (a.tmod 625 == 0) = false := by rw [beq_eq_false_iff_ne]; exact m1
          clear hs hB hU m1
          go_wp2_with fail
          go_round
          case rel => exact ⟨4, B, by omega, rfl, rfl, hn⟩
          case measure => simp [intOf]
    · obtain rfl : B = 3 := hB.out.trans hU.out
      clear hB hU
      have t1 := tdiv_bd (d := 81) ha.1 ha.2
      have t2 := tdiv_bd (d := 729) hb.1 hb.2
      go_wp2_with fail
      go_region
      go_wp2_with fail
      refine bodyPost_ret (v := .tuple #[.agg #[.int .i64 (a.tdiv 81), .int .i64 (b.tdiv 729)], .int .i64 3]) (by simp [results, Try.results45, go_sem]) (by rfl) ⟨by rfl, ?_⟩
      first | exact below_alloc2 _ _ _ | exact Below.drewN' (below_alloc2 _ _ _) 1


set_option maxHeartbeats 2000000 in
theorem ecSmall_2 (a b : Int) (w : World) (ha : -1000 ≤ a ∧ a ≤ 1000) (hb : -10000 ≤ b ∧ b ≤ 10000) (hU : ecB a b 4 = 2) : Calls Try.prog 45 #[.agg #[.int .i64 a, .int .i64 b]] w (GivesFI w (a.tdiv 16) (b.tdiv 64) 2) := by
  replace hU := Lib.hid hU
  have h := Below.refl w.heap.size w
  have hA := below_alloc1 w (.cells #[.int .i64 a, .int .i64 b] 25)
  have hx0 := Box.new w 25 #[.int .i64 a, .int .i64 b]
  replace h := Below.step h hA
  clear hA
  have hA := below_alloc1 (w.alloc (.cells #[.int .i64 a, .int .i64 b] 25)) (.cells #[.int .i64 0, .int .i64 0] 25)
  have hxr := Box.new (w.alloc (.cells #[.int .i64 a, .int .i64 b] 25)) 25 #[.int .i64 0, .int .i64 0]
  rw [show (w.alloc (.cells #[.int .i64 a, .int .i64 b] 25)).heap.size = w.heap.size + 1 from by simp] at hxr
  replace h := Below.step h hA
  replace hx0 := hx0.kept hA
  clear hA
  obtain ⟨k00, k01⟩ := hx0.two
  have l0 := hx0.lt
  obtain ⟨kr0, kr1⟩ := hxr.two
  have lr := hxr.lt
  go_enter Try.func45, Try.ntmps45
  go_wp2_with fail
  go_loop [4, 5] (fun y x => ∃ (k : Nat) (B : Int), k ≤ 4 ∧ x = .int .i64 ((k : Int) + 2) ∧ y = .int .i64 B ∧ Hid (B = ecB a b k)) (fun _ x => 10 - (intOf x).toNat)
  case atStart => exact ⟨0, 1, by omega, rfl, rfl, rfl⟩
  case round =>
    obtain ⟨k, B, hk, rfl, rfl, hB⟩ := hrel
    rcases (show k = 0 ∨ k = 1 ∨ k = 2 ∨ k = 3 ∨ k = 4 by omega) with rfl | rfl | rfl | rfl | rfl
    · by_cases hs : ecS a b 16 64
      · obtain ⟨m1, m2⟩ := id hs
        have hn : Hid ((2 : Int) = ecB a b 1) := by show _ = _; rw [ecB_1, if_pos hs]
        clear hs hB hU
        go_wp2_with fail
        go_round
        case rel => exact ⟨1, 2, by omega, rfl, rfl, hn⟩
        case measure => simp [intOf]
      · have hn : Hid (B = ecB a b 1) := by show _ = _; rw [ecB_1, if_neg hs]; exact hB.out
        by_cases m1 : a.tmod 16 = 0
        · have m2 : (b.tmod 64 == 0) = false := by rw [beq_eq_false_iff_ne]; exact fun e => hs ⟨m1, e⟩
          clear hs hB hU
          go_wp2_with fail
          go_round
          case rel => exact ⟨1, B, by omega, rfl, rfl, hn⟩
          case measure => simp [intOf]
        · have m2 : (a.tmod 16 == 0) = false := by rw [beq_eq_false_iff_ne]; exact m1
          clear hs hB hU m1
          go_wp2_with fail
          go_round
          case rel => exact ⟨1, B, by omega, rfl, rfl, hn⟩
          case measure => simp [intOf]
    · by_cases hs : ecS a b 81 729
      · obtain ⟨m1, m2⟩ := id hs
        have hn : Hid ((3 : Int) = ecB a b 2) := by show _ = _; rw [ecB_2, if_pos hs]
        clear hs hB hU
        go_wp2_with fail
        go_round
        case rel => exact ⟨2, 3, by omega, rfl, rfl, hn⟩
        case measure => simp [intOf]
      · have hn : Hid (B = ecB a b 2) := by show _ = _; rw [ecB_2, if_neg hs]; exact hB.out
        by_cases m1 : a.tmod 81 = 0
        · have m2 : (b.tmod 729 == 0) = false := by rw [beq_eq_false_iff_ne]; exact fun e => hs ⟨m1, e⟩
          clear hs hB hU
          go_wp2_with fail
          go_round
          case rel => exact ⟨2, B, by omega, rfl, rfl, hn⟩
          case measure => simp [intOf]
        · have m2 : (a.tmod 81 == 0) = false := by rw [beq_eq_false_iff_ne]; exact m1
          clear hs hB hU m1
          go_wp2_with fail
          go_round
          case rel => exact ⟨2, B, by omega, rfl, rfl, hn⟩
          case measure => simp [intOf]
    · by_cases hs : ecS a b 256 4096
      · obtain ⟨m1, m2⟩ := id hs
        have hn : Hid ((4 : Int) = ecB a b 3) := by show _ = _; rw [ecB_3, if_pos hs]
        clear hs hB hU
        go_wp2_with fail
        go_round
        case rel => exact ⟨3, 4, by omega, rfl, rfl, hn⟩
        case measure => simp [intOf]
      · have hn : Hid (B = ecB a b 3) := by show _ = _; rw [ecB_3, if_neg hs]; exact hB.out
        by_cases m1 : a.tmod 256 = 0
        · have m2 : (b.tmod 4096 == 0) = false := by rw [beq_eq_false_iff_ne]; exact fun e => hs ⟨m1, e⟩
          clear hs hB hU
          go_wp2_with fail
          go_round
          case rel => exact ⟨3, B, by omega, rfl, rfl, hn⟩
          case measure => simp [intOf]
        · have m2 : (a.tmod 256 == 0) = false := by rw [beq_eq_false_iff_ne]; exact m1
          clear hs hB hU m1
          go_wp2_with fail
          go_round
          case rel => exact ⟨3, B, by omega, rfl, rfl, hn⟩
          case measure => simp [intOf]
    · by_cases hs : ecS a b 625 15625
      · obtain ⟨m1, m2⟩ := id hs
        have hn : Hid ((5 : Int) = ecB a b 4) := by show _ = _; rw [ecB_4, if_pos hs]
        clear hs hB hU
        go_wp2_with fail
        go_round
        case rel => exact ⟨4, 5, by omega, rfl, rfl, hn⟩
        case measure => simp [intOf]
      · have hn : Hid (B = ecB a b 4) := by show _ = _; rw [ecB_4, if_neg hs]; exact hB.out
        by_cases m1 : a.tmod 625 = 0
        · have m2 : (b.tmod 15625 == 0) = false := by rw [beq_eq_false_iff_ne]; exact fun e => hs ⟨m1, e⟩
          clear hs hB hU
          go_wp2_with fail
          go_round
          case rel => exact ⟨4, B, by omega, rfl, rfl, hn⟩
          case measure => simp [intOf]
        · have m2 : (a.tmod 625 == 0) = false := by rw [beq_eq_false_iff_ne]; exact m1
          clear hs hB hU m1
          go_wp2_with fail
          go_round
          case rel => exact ⟨4, B, by omega, rfl, rfl, hn⟩
          case measure => simp [intOf]
    · obtain rfl : B = 2 := hB.out.trans hU.out
      clear hB hU
      have t1 := tdiv_bd (d := 16) ha.1 ha.2
      have t2 := tdiv_bd (d := 64) hb.1 hb.2
      go_wp2_with fail
      go_region
      go_wp2_with fail
      refine bodyPost_ret (v := .tuple #[.agg #[.int .i64 (a.tdiv 16), .int .i64 (b.tdiv 64)], .int .i64 2]) (by simp [results, Try.results45, go_sem]) (by rfl) ⟨by rfl, ?_⟩
      first | exact below_alloc2 _ _ _ | exact Below.drewN' (below_alloc2 _ _ _) 1


set_option maxHeartbeats 2000000 in
theorem ecSmall_1 (a b : Int) (w : World) (ha : -1000 ≤ a ∧ a ≤ 1000) (hb : -10000 ≤ b ∧ b ≤ 10000) (hU : ecB a b 4 = 1) : Calls Try.prog 45 #[.agg #[.int .i64 a, .int .i64 b]] w (GivesFI w (a) (b) 1) := by
  replace hU := Lib.hid hU
  have h := Below.refl w.heap.size w
  have hA := below_alloc1 w (.cells #[.int .i64 a, .int .i64 b] 25)
  have hx0 := Box.new w 25 #[.int .i64 a, .int .i64 b]
  replace h := Below.step h hA
  clear hA
  have hA := below_alloc1 (w.alloc (.cells #[.int .i64 a, .int .i64 b] 25)) (.cells #[.int .i64 0, .int .i64 0] 25)
  have hxr := Box.new (w.alloc (.cells #[.int .i64 a, .int .i64 b] 25)) 25 #[.int .i64 0, .int .i64 0]
  rw [show (w.alloc (.cells #[.int .i64 a, .int .i64 b] 25)).heap.size = w.heap.size + 1 from by simp] at hxr
  replace h := Below.step h hA
  replace hx0 := hx0.kept hA
  clear hA
  obtain ⟨k00, k01⟩ := hx0.two
  have l0 := hx0.lt
  obtain ⟨kr0, kr1⟩ := hxr.two
  have lr := hxr.lt
  go_enter Try.func45, Try.ntmps45
  go_wp2_with fail
  go_loop [4, 5] (fun y x => ∃ (k : Nat) (B : Int), k ≤ 4 ∧ x = .int .i64 ((k : Int) + 2) ∧ y = .int .i64 B ∧ Hid (B = ecB a b k)) (fun _ x => 10 - (intOf x).toNat)
  case atStart => exact ⟨0, 1, by omega, rfl, rfl, rfl⟩
  case round =>
    obtain ⟨k, B, hk, rfl, rfl, hB⟩ := hrel
    rcases (show k = 0 ∨ k = 1 ∨ k = 2 ∨ k = 3 ∨ k = 4 by omega) with rfl | rfl | rfl | rfl | rfl
    · by_cases hs : ecS a b 16 64
      · obtain ⟨m1, m2⟩ := id hs
        have hn : Hid ((2 : Int) = ecB a b 1) := by show _ = _; rw [ecB_1, if_pos hs]
        clear hs hB hU
        go_wp2_with fail
        go_round
        case rel => exact ⟨1, 2, by omega, rfl, rfl, hn⟩
        case measure => simp [intOf]
      · have hn : Hid (B = ecB a b 1) := by show _ = _; rw [ecB_1, if_neg hs]; exact hB.out
        by_cases m1 : a.tmod 16 = 0
        · have m2 : (b.tmod 64 == 0) = false := by rw [beq_eq_false_iff_ne]; exact fun e => hs ⟨m1, e⟩
          clear hs hB hU
          go_wp2_with fail
          go_round
          case rel => exact ⟨1, B, by omega, rfl, rfl, hn⟩
          case measure => simp [intOf]
        · have m2 : (a.tmod 16 == 0) = false := by rw [beq_eq_false_iff_ne]; exact m1
          clear hs hB hU m1
          go_wp2_with fail
          go_round
          case rel => exact ⟨1, B, by omega, rfl, rfl, hn⟩
          case measure => simp [intOf]
    · by_cases hs : ecS a b 81 729
      · obtain ⟨m1, m2⟩ := id hs
        have hn : Hid ((3 : Int) = ecB a b 2) := by show _ = _; rw [ecB_2, if_pos hs]
        clear hs hB hU
        go_wp2_with fail
        go_round
        case rel => exact ⟨2, 3, by omega, rfl, rfl, hn⟩
        case measure => simp [intOf]
      · have hn : Hid (B = ecB a b 2) := by show _ = _; rw [ecB_2, if_neg hs]; exact hB.out
        by_cases m1 : a.tmod 81 = 0
        · have m2 : (b.tmod 729 == 0) = false := by rw [beq_eq_false_iff_ne]; exact fun e => hs ⟨m1, e⟩
          clear hs hB hU
          go_wp2_with fail
          go_round
          case rel => exact ⟨2, B, by omega, rfl, rfl, hn⟩
          case measure => simp [intOf]
        · have m2 : (a.tmod 81 == 0) = false := by rw [beq_eq_false_iff_ne]; exact m1
          clear hs hB hU m1
          go_wp2_with fail
          go_round
          case rel => exact ⟨2, B, by omega, rfl, rfl, hn⟩
          case measure => simp [intOf]
    · by_cases hs : ecS a b 256 4096
      · obtain ⟨m1, m2⟩ := id hs
        have hn : Hid ((4 : Int) = ecB a b 3) := by show _ = _; rw [ecB_3, if_pos hs]
        clear hs hB hU
        go_wp2_with fail
        go_round
        case rel => exact ⟨3, 4, by omega, rfl, rfl, hn⟩
        case measure => simp [intOf]
      · have hn : Hid (B = ecB a b 3) := by show _ = _; rw [ecB_3, if_neg hs]; exact hB.out
        by_cases m1 : a.tmod 256 = 0
        · have m2 : (b.tmod 4096 == 0) = false := by rw [beq_eq_false_iff_ne]; exact fun e => hs ⟨m1, e⟩
          clear hs hB hU
          go_wp2_with fail
          go_round
          case rel => exact ⟨3, B, by omega, rfl, rfl, hn⟩
          case measure => simp [intOf]
        · have m2 : (a.tmod 256 == 0) = false := by rw [beq_eq_false_iff_ne]; exact m1
          clear hs hB hU m1
          go_wp2_with fail
          go_round
          case rel => exact ⟨3, B, by omega, rfl, rfl, hn⟩
          case measure => simp [intOf]
    · by_cases hs : ecS a b 625 15625
      · obtain ⟨m1, m2⟩ := id hs
        have hn : Hid ((5 : Int) = ecB a b 4) := by show _ = _; rw [ecB_4, if_pos hs]
        clear hs hB hU
        go_wp2_with fail
        go_round
        case rel => exact ⟨4, 5, by omega, rfl, rfl, hn⟩
        case measure => simp [intOf]
      · have hn : Hid (B = ecB a b 4) := by show _ = _; rw [ecB_4, if_neg hs]; exact hB.out
        by_cases m1 : a.tmod 625 = 0
        · have m2 : (b.tmod 15625 == 0) = false := by rw [beq_eq_false_iff_ne]; exact fun e => hs ⟨m1, e⟩
          clear hs hB hU
          go_wp2_with fail
          go_round
          case rel => exact ⟨4, B, by omega, rfl, rfl, hn⟩
          case measure => simp [intOf]
        · have m2 : (a.tmod 625 == 0) = false := by rw [beq_eq_false_iff_ne]; exact m1
          clear hs hB hU m1
          go_wp2_with fail
          go_round
          case rel => exact ⟨4, B, by omega, rfl, rfl, hn⟩
          case measure => simp [intOf]
    · obtain rfl : B = 1 := hB.out.trans hU.out
      clear hB hU
      have t1 := tdiv_bd (d := 1) ha.1 ha.2
      have t2 := tdiv_bd (d := 1) hb.1 hb.2
      go_wp2_with fail
      go_region
      go_wp2_with fail
      refine bodyPost_ret (v := .tuple #[.agg #[.int .i64 (a), .int .i64 (b)], .int .i64 1]) (by simp [results, Try.results45, go_sem]) (by rfl) ⟨by rfl, ?_⟩
      first | exact below_alloc2 _ _ _ | exact Below.drewN' (below_alloc2 _ _ _) 1

end Go.Proofs.Ytmknmjkcnlennaa
