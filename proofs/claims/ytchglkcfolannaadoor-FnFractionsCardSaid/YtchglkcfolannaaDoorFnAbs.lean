/- The laws' own qAbs and qGcd. -/
import Derived.Test.YtchglkcfolannaaDoorFrGcd
namespace Go.Proofs.YtchglkcfolannaaDoor
open Go.RowKit Go.Joins

set_option maxHeartbeats 400000 in
theorem qAbs_any (x : Int) (w : World) (h1 : -9223372036854775807 ≤ x) (h2 : x ≤ 9223372036854775807) : ∀ m : Nat, m = x.natAbs →
    Calls Tryd.prog 20 #[.int .i64 x] w fun e w' => e = .returned (.int .i64 (m : Int)) ∧ w = w' := by
  intro m hm
  by_cases h : x < 0
  · have e1 : -x = (m : Int) := by omega
    have hm' := Lib.hid e1
    clear hm e1
    go_enter Tryd.func20, Tryd.ntmps20
    go_wp2
    go_ret
    exact ⟨by rw [← hm'.out]; rfl, rfl⟩
  · have e1 : x = (m : Int) := by omega
    have hm' := Lib.hid e1
    clear hm e1
    go_enter Tryd.func20, Tryd.ntmps20
    go_wp2
    go_ret
    exact ⟨by rw [← hm'.out]; rfl, rfl⟩

set_option maxHeartbeats 400000 in
theorem qGcd_any (x y : Int) (w : World) (hx1 : -9223372036854775807 ≤ x) (hx2 : x ≤ 9223372036854775807) (hy1 : -9223372036854775807 ≤ y) (hy2 : y ≤ 9223372036854775807) (hy0 : y ≠ 0) : ∀ G : Nat, G = Nat.gcd x.natAbs y.natAbs →
    Calls Tryd.prog 19 #[.int .i64 x, .int .i64 y] w fun e w' => e = .returned (.int .i64 (G : Int)) ∧ w = w' := by
  intro G hG
  have hGp : G ≠ 0 := by
    have := Nat.gcd_pos_of_pos_right x.natAbs (show 0 < y.natAbs by omega)
    omega
  have c1 := fun W => qAbs_any x W hx1 hx2 _ rfl
  have c2 := fun W => qAbs_any y W hy1 hy2 _ rfl
  obtain ⟨a0, ha0⟩ : ∃ a, a = x.natAbs := ⟨_, rfl⟩
  obtain ⟨b0, hb0⟩ : ∃ a, a = y.natAbs := ⟨_, rfl⟩
  have la : a0 ≤ 9223372036854775807 := by omega
  have lb : b0 ≤ 9223372036854775807 := by omega
  rw [← ha0] at c1 hG
  rw [← hb0] at c2 hG
  replace c1 := Lib.hid c1
  replace c2 := Lib.hid c2
  replace hG := Lib.hid hG
  replace hGp := Lib.hid hGp
  clear ha0 hb0
  go_enter Tryd.func19, Tryd.ntmps19
  go_wp2_with fail
  refine (c1.out _).mono ?_
  rintro e w' ⟨rfl, rfl⟩
  go_wp2_with fail
  refine (c2.out _).mono ?_
  rintro e w' ⟨rfl, rfl⟩
  go_wp2_with fail
  go_loop [0, 1] (fun p q => ∃ a b : Nat, a ≤ 9223372036854775807 ∧ b ≤ 9223372036854775807 ∧ p = .int .i64 a ∧ q = .int .i64 b ∧ Hid (Nat.gcd a b = G)) (fun _ q => (intOf q).toNat)
  case atStart => exact ⟨a0, b0, la, lb, rfl, rfl, hG.out.symm⟩
  case round =>
    obtain ⟨a, b, ha, hb, rfl, rfl, hg⟩ := hrel
    clear hG
    by_cases h0 : 0 < b
    · have hlt : a % b < b := Nat.mod_lt _ h0
      have hg2 : Hid (Nat.gcd b (a % b) = G) := (gcd_turn a b).trans hg.out
      go_wp2_with fail
      go_round
      case rel => exact ⟨b, a % b, hb, by omega, rfl, by simp, hg2⟩
      case measure => simp [intOf]; omega
    · have hb0 : b = 0 := by omega
      subst hb0
      have hga : a = G := by have := hg.out; rw [Nat.gcd_zero_right] at this; exact this
      have e0 : ((a : Int) == 0) = false := by have := hGp.out; rw [beq_eq_false_iff_ne]; omega
      have hga' := Lib.hid hga
      clear hg h0 hga
      go_wp2_with fail
      go_ret
      exact ⟨by rw [hga'.out]; rfl, rfl⟩
end Go.Proofs.YtchglkcfolannaaDoor
