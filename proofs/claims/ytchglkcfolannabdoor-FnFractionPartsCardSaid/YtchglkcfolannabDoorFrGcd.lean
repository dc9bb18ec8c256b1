/- Common divisors, bounds, absolute values: the model's and the program's. -/
import Derived.Test.YtchglkcfolannabDoorFrBox
import Derived.RegionTactic
import Derived.ChangeAlike
import Derived.Deep.RegionHeld3
import Derived.Deep.QuietTactic
import Derived.BigQuiet
namespace Go.Proofs.YtchglkcfolannabDoor
open Go.RowKit Go.Joins

theorem gcd_turn (x y : Nat) : Nat.gcd y (x % y) = Nat.gcd x y := by
  rw [Nat.gcd_comm y (x % y), ← Nat.gcd_rec y x, Nat.gcd_comm]

set_option maxHeartbeats 400000 in
theorem bgCommon_any (x y : Nat) (w : World) (hx : x ≤ 9223372036854775807) (hy : y ≤ 9223372036854775807) :
    Calls Tryd.prog 55 #[.int .i64 (x : Int), .int .i64 (y : Int)] w fun e w' => e = .returned (.int .i64 ((Nat.gcd x y : Nat) : Int)) ∧ w = w' := by
  obtain ⟨G, hG⟩ : ∃ G, G = Nat.gcd x y := ⟨_, rfl⟩
  rw [← hG]
  have hG' := Lib.hid hG
  clear hG
  go_enter Tryd.func55, Tryd.ntmps55
  go_wp2_with fail
  go_loop [0, 1] (fun p q => ∃ a b : Nat, a ≤ 9223372036854775807 ∧ b ≤ 9223372036854775807 ∧ p = .int .i64 a ∧ q = .int .i64 b ∧ Hid (Nat.gcd a b = G)) (fun _ q => (intOf q).toNat)
  case atStart => exact ⟨x, y, hx, hy, rfl, rfl, hG'.out.symm⟩
  case round =>
    obtain ⟨a, b, ha, hb, rfl, rfl, hg⟩ := hrel
    clear hG'
    by_cases h0 : 0 < b
    · have hlt : a % b < b := Nat.mod_lt _ h0
      have hg2 : Hid (Nat.gcd b (a % b) = G) := (gcd_turn a b).trans hg.out
      go_wp2
      go_round
      case rel => exact ⟨b, a % b, hb, by omega, rfl, by simp, hg2⟩
      case measure => simp [intOf]; omega
    · have hb0 : b = 0 := by omega
      subst hb0
      have hga : Hid (a = G) := by have := hg.out; rw [Nat.gcd_zero_right] at this; exact this
      clear hg h0
      go_wp2
      go_ret
      exact ⟨by rw [hga.out]; rfl, rfl⟩

set_option maxHeartbeats 800000 in
theorem commonDivisor_any (x y : Nat) (w : World) (hx : x ≤ 9223372036854775807) (hy : y ≤ 9223372036854775807) :
    Calls Tryd.prog 53 #[.int .i64 (x : Int), .int .i64 (y : Int)] w fun e w' => e = .returned (.int .i64 ((Nat.gcd x y : Nat) : Int)) ∧ Below w.heap.size w w' := by
  obtain ⟨G, hG⟩ : ∃ G, G = Nat.gcd x y := ⟨_, rfl⟩
  rw [← hG]
  have hG' := Lib.hid hG
  clear hG
  go_enter Tryd.func53, Tryd.ntmps53
  go_wp2_with fail
  go_loopw [0, 1] (fun p q wr => ∃ a b : Nat, a ≤ 9223372036854775807 ∧ b ≤ 9223372036854775807 ∧ p = .int .i64 a ∧ q = .int .i64 b ∧ Hid (Nat.gcd a b = G) ∧ Below w.heap.size w wr) (fun _ q _ => (intOf q).toNat)
  case atStart => exact ⟨x, y, hx, hy, rfl, rfl, hG'.out.symm, Below.refl _ _⟩
  case round =>
    obtain ⟨a, b, ha, hb, rfl, rfl, hg, hbl⟩ := hrel
    clear hG'
    by_cases h0 : 0 < b
    · have hlt : a % b < b := Nat.mod_lt _ h0
      have hg2 : Hid (Nat.gcd b (a % b) = G) := (gcd_turn a b).trans hg.out
      have e0 : ((b : Int) != 0) = true := by rw [bne_iff_ne]; omega
      have e1 : ((b : Int) == 0) = false := beq_eq_false_iff_ne.2 (by omega)
      go_wp2
      go_region
      all_goals go_wp2
      all_goals go_roundw
      all_goals (first | (refine ⟨b, a % b, hb, by omega, rfl, by simp, hg2, ?_⟩; first | exact hbl | exact hbl.drew | exact below_of_draws hbl _) | (simp [intOf]; omega))
    · have hb0 : b = 0 := by omega
      subst hb0
      have hga : Hid (a = G) := by have := hg.out; rw [Nat.gcd_zero_right] at this; exact this
      clear hg h0
      go_wp2
      go_ret
      exact ⟨by rw [hga.out]; rfl, hbl⟩

set_option maxHeartbeats 400000 in
theorem l1In_yes (n lo hi : Int) (w : World) (h1 : lo ≤ n) (h2 : n ≤ hi) :
    Calls Tryd.prog 33 #[.int .i64 n, .int .i64 lo, .int .i64 hi] w fun e w' => e = .returned (.bool true) ∧ w = w' := by
  go_enter Tryd.func33, Tryd.ntmps33
  go_wp2
  go_ret
  exact ⟨rfl, rfl⟩

set_option maxHeartbeats 400000 in
theorem l1In_no (n lo hi : Int) (w : World) (h : n < lo ∨ hi < n) :
    Calls Tryd.prog 33 #[.int .i64 n, .int .i64 lo, .int .i64 hi] w fun e w' => e = .returned (.bool false) ∧ w = w' := by
  by_cases h1 : lo ≤ n
  · have d : decide (n ≤ hi) = false := by simp; omega
    clear h
    go_enter Tryd.func33, Tryd.ntmps33
    go_wp2
    go_ret
    exact ⟨rfl, rfl⟩
  · clear h
    go_enter Tryd.func33, Tryd.ntmps33
    go_wp2
    go_ret
    exact ⟨rfl, rfl⟩

set_option maxHeartbeats 400000 in
theorem l1Most_left (a b : Int) (w : World) (h : b < a) :
    Calls Tryd.prog 30 #[.int .i64 a, .int .i64 b] w fun e w' => e = .returned (.int .i64 a) ∧ w = w' := by
  go_enter Tryd.func30, Tryd.ntmps30
  go_wp2
  go_ret
  exact ⟨rfl, rfl⟩
set_option maxHeartbeats 400000 in
theorem l1Most_right (a b : Int) (w : World) (h : a ≤ b) :
    Calls Tryd.prog 30 #[.int .i64 a, .int .i64 b] w fun e w' => e = .returned (.int .i64 b) ∧ w = w' := by
  have h' : ¬ b < a := by omega
  go_enter Tryd.func30, Tryd.ntmps30
  go_wp2
  go_ret
  exact ⟨rfl, rfl⟩

set_option maxHeartbeats 400000 in
theorem l1Abs_any (n : Int) (w : World) (h1 : -9223372036854775807 ≤ n) (h2 : n ≤ 9223372036854775807) :
    Calls Tryd.prog 31 #[.int .i64 n] w fun e w' => e = .returned (.int .i64 ((n.natAbs : Nat) : Int)) ∧ w = w' := by
  by_cases h : 0 < n
  · have e1 : ((n.natAbs : Nat) : Int) = n := by omega
    rw [e1]
    clear e1
    go_enter Tryd.func31, Tryd.ntmps31
    go_wp2_with fail
    refine (l1Most_left _ _ _ (by omega)).mono ?_
    rintro e w' ⟨rfl, rfl⟩
    go_wp2_with fail
    go_ret
    exact ⟨rfl, rfl⟩
  · have e1 : ((n.natAbs : Nat) : Int) = -n := by omega
    rw [e1]
    clear e1
    go_enter Tryd.func31, Tryd.ntmps31
    go_wp2_with fail
    refine (l1Most_right _ _ _ (by omega)).mono ?_
    rintro e w' ⟨rfl, rfl⟩
    go_wp2_with fail
    go_ret
    exact ⟨rfl, rfl⟩
end Go.Proofs.YtchglkcfolannabDoor
