/- Square roots, rounded down: the model's frRoot halves, the program's exactRoot goes bit by bit (written by wip/gen/frroot.py). -/
import Derived.Test.YtchglkcfolannabDoorFrGood
import Derived.Deep.LoopGhost
namespace Go.Proofs.YtchglkcfolannabDoor
open Go.RowKit Go.Joins

theorem sq_le {a b : Nat} (h : a ≤ b) : a * a ≤ b * b := Nat.mul_le_mul h h
theorem ret_nat {a b : Nat} (h : a = b) : Ending.returned (.int .i64 (a : Int)) = .returned (.int .i64 (b : Int)) := by rw [h]

set_option maxHeartbeats 1000000 in
theorem frRoot_any (n : Nat) (w : World) (hn : n ≤ 1000000000) : ∀ R : Nat, Root R n →
    Calls Tryd.prog 37 #[.int .i64 (n : Int)] w fun e w' => e = .returned (.int .i64 (R : Int)) ∧ w = w' := by
  intro R hR
  replace hR := Lib.hid hR
  go_enter Tryd.func37, Tryd.ntmps37
  go_wp2_with fail
  go_loop [3, 4] (fun lo hi => ∃ a b : Nat, a < b ∧ b ≤ 2000000001 ∧ Hid (a * a ≤ n ∧ n < b * b) ∧ lo = .int .i64 a ∧ hi = .int .i64 b) (fun lo hi => (intOf hi - intOf lo).toNat)
  case atStart => exact ⟨0, 2000000001, by omega, by omega, ⟨by omega, by omega⟩, rfl, rfl⟩
  case round =>
    obtain ⟨a, b, hab, hb, hi, rfl, rfl⟩ := hrel
    by_cases h1 : a + 1 < b
    · obtain ⟨m, hm⟩ : ∃ m : Nat, m = (a + b) / 2 := ⟨_, rfl⟩
      have hm1 : a < m := by omega
      have hm2 : m < b := by omega
      have hmm : m * m ≤ 2000000001 * 2000000001 := sq_le (by omega)
      have hmi : (m : Int) * m ≤ 4000000004000000001 := by have : ((m * m : Nat) : Int) = (m : Int) * m := Int.natCast_mul m m; omega
      have hm0 : 0 ≤ (m : Int) * m := Int.mul_nonneg (by omega) (by omega)
      have hq : ((a : Int) + b) / 2 = (m : Int) := by omega
      have hgap : (1 : Int) < (b : Int) - a := by omega
      clear hm
      by_cases hc : m * m ≤ n
      · have hd : decide ((m : Int) * m ≤ n) = true := by
          have : ((m * m : Nat) : Int) = (m : Int) * m := Int.natCast_mul m m
          simp only [decide_eq_true_eq]; omega
        rw [← hq] at hmi hm0 hd
        have hqh := Lib.hid hq
        have hc' := Lib.hid hc
        clear hq hc
        go_wp2_with fail
        go_round
        case rel => exact ⟨m, b, by omega, by omega, ⟨hc'.out, hi.out.2⟩, by rw [hqh.out], rfl⟩
        case measure => rw [hqh.out]; simp [intOf]; omega
      · have hd : decide ((m : Int) * m ≤ n) = false := by
          have : ((m * m : Nat) : Int) = (m : Int) * m := Int.natCast_mul m m
          simp only [decide_eq_false_iff_not]; omega
        rw [← hq] at hmi hm0 hd
        have hqh := Lib.hid hq
        have hc' := Lib.hid hc
        clear hq hc
        go_wp2_with fail
        go_round
        case rel => exact ⟨a, m, by omega, by omega, ⟨hi.out.1, Nat.lt_of_not_ge hc'.out⟩, rfl, by rw [hqh.out]⟩
        case measure => rw [hqh.out]; simp [intOf]; omega
    · have hgap : ¬ (1 : Int) < (b : Int) - a := by omega
      have hRa : Hid (a = R) := Root.unique (n := n) ⟨hi.out.1, by have h2 := hi.out.2; rw [show b = a + 1 from by omega] at h2; exact h2⟩ hR.out
      clear h1
      go_wp2_with fail
      go_ret
      exact ⟨ret_nat hRa.out, rfl⟩

theorem frSquare_side (n R : Nat) (h : Root R n) (hn : n ≤ 1000000000) : 0 ≤ (R : Int) * R ∧ (R : Int) * R ≤ 1000000000 := by
  have h1 : ((R * R : Nat) : Int) = (R : Int) * R := Int.natCast_mul R R
  have h2 := h.1
  omega

set_option maxHeartbeats 1000000 in
theorem frSquare_yes (n R : Nat) (w : World) (hn : n ≤ 1000000000) (h : R * R = n) :
    Calls Tryd.prog 36 #[.int .i64 (n : Int)] w fun e w' => e = .returned (.bool true) ∧ w = w' := by
  have hR : Root R n := ⟨by omega, by rw [Nat.add_mul, Nat.mul_add]; omega⟩
  have e1 : ((R : Int) * R == n) = true := by have h1 : ((R * R : Nat) : Int) = (R : Int) * R := Int.natCast_mul R R; rw [beq_iff_eq]; omega
  obtain ⟨b0, b1⟩ := frSquare_side n R hR hn
  have c := fun W => frRoot_any n W hn R hR
  replace c := Lib.hid c
  clear hR h
  go_enter Tryd.func36, Tryd.ntmps36
  go_wp2_with fail
  refine (c.out _).mono ?_
  rintro e w' ⟨rfl, rfl⟩
  go_wp2_with fail
  refine (c.out _).mono ?_
  rintro e w' ⟨rfl, rfl⟩
  go_wp2_with fail
  go_ret
  exact ⟨rfl, rfl⟩

set_option maxHeartbeats 1000000 in
theorem frSquare_no (n R : Nat) (w : World) (hn : n ≤ 1000000000) (hR : Root R n) (h : R * R ≠ n) :
    Calls Tryd.prog 36 #[.int .i64 (n : Int)] w fun e w' => e = .returned (.bool false) ∧ w = w' := by
  have e1 : ((R : Int) * R == n) = false := by have h1 : ((R * R : Nat) : Int) = (R : Int) * R := Int.natCast_mul R R; rw [beq_eq_false_iff_ne]; omega
  obtain ⟨b0, b1⟩ := frSquare_side n R hR hn
  have c := fun W => frRoot_any n W hn R hR
  replace c := Lib.hid c
  clear hR h
  go_enter Tryd.func36, Tryd.ntmps36
  go_wp2_with fail
  refine (c.out _).mono ?_
  rintro e w' ⟨rfl, rfl⟩
  go_wp2_with fail
  refine (c.out _).mono ?_
  rintro e w' ⟨rfl, rfl⟩
  go_wp2_with fail
  go_ret
  exact ⟨rfl, rfl⟩

/-- What the program's loop finds: the root of a number up to 2 ^ 62. -/
structure IRt (R : Nat) (n : Int) : Prop where
  lo : R = 0 ∨ ((R * R : Nat) : Int) ≤ n
  up : n < (((R + 1) * (R + 1) : Nat) : Int) ∨ R = 2147483647
  lt : R < 2147483648
theorem IRt.unique {r s : Nat} {n : Int} (h : IRt r n) (k : IRt s n) : r = s := by
  have go : ∀ {r s : Nat}, IRt r n → IRt s n → ¬ r < s := by
    intro r s h k hlt
    have e := sq_le (show r + 1 ≤ s from hlt)
    have := k.lt
    rcases k.lo with l | l
    · omega
    · rcases h.up with u | u <;> omega
  have := go h k
  have := go k h
  omega
theorem IRt.of_root {R n : Nat} (h : Root R n) (hn : n < 4611686018427387904) : IRt R n := by
  refine ⟨.inr (by exact_mod_cast h.1), .inl (by exact_mod_cast h.2), ?_⟩
  apply Nat.lt_of_not_le; intro k
  have := sq_le k
  have := h.1
  omega
theorem IRt.of_neg {n : Int} (h : n < 0) : IRt 0 n := ⟨.inl rfl, .inl (by show n < ((1 : Nat) : Int); omega), by omega⟩
theorem IRt.of_big {n : Int} (h : 4611686018427387904 ≤ n) : IRt 2147483647 n := ⟨.inr (by omega), .inr rfl, by omega⟩
theorem bits_half (k : Nat) : (2 : Nat) ^ (k + 1) / 2 = 2 ^ k := by rw [Nat.pow_succ]; omega

set_option maxHeartbeats 2000000 in
theorem exactRootW_any (n : Int) (w : World) : ∀ R : Nat, IRt R n → ∀ B : Bool, ((R : Int) * R == n) = B →
    Calls Tryd.prog 35 #[.int .i64 n] w fun e w' => e = .returned (.tuple #[.int .i64 (R : Int), .bool B]) ∧ w = w' := by
  intro R hR B hB
  have b0 : 0 ≤ (R : Int) * R := Int.mul_nonneg (by omega) (by omega)
  have b1 : (R : Int) * R ≤ 4611686014132420609 := by
    have h1 : ((R * R : Nat) : Int) = (R : Int) * R := Int.natCast_mul R R
    have := sq_le (show R ≤ 2147483647 by have := hR.lt; omega)
    omega
  replace hR := Lib.hid hR
  replace hB := Lib.hid hB
  go_enter Tryd.func35, Tryd.ntmps35
  go_wp2_with fail
  go_loop [4, 5] (fun r b => ∃ x y k : Nat, k ≤ 31 ∧ y ≤ 1073741824 ∧ x + 2 * y ≤ 2147483648 ∧ x ≤ 2147483647 ∧ Hid ((k = 0 ∧ y = 0 ∧ (n < (((x + 1) * (x + 1) : Nat) : Int) ∨ x = 2147483647)) ∨ (1 ≤ k ∧ y = 2 ^ (k - 1) ∧ (n < (((x + 2 * y) * (x + 2 * y) : Nat) : Int) ∨ x + 2 * y = 2147483648))) ∧ Hid (x = 0 ∨ ((x * x : Nat) : Int) ≤ n) ∧ (k = 0 → y = 0) ∧ (1 ≤ k → 1 ≤ y) ∧ r = .int .i64 x ∧ b = .int .i64 y) (fun _ b => (intOf b).toNat)
  case atStart => exact ⟨0, 1073741824, 31, by omega, by omega, by omega, by omega, .inr ⟨by omega, by decide, .inr (by omega)⟩, .inl rfl, by omega, by omega, rfl, rfl⟩
  case round =>
    obtain ⟨x, y, k, hk, hy, hxy, hx, hi, hl, hk0, hk1, rfl, rfl⟩ := hrel
    by_cases h0 : k = 0
    · have hy0 := hk0 h0
      subst hy0
      have hxR : Hid (x = R) := IRt.unique (n := n) ⟨hl.out, (by rcases hi.out with h | h <;> first | exact h.2.2 | omega), by omega⟩ hR.out
      clear h0 hk0 hk1
      obtain rfl := hxR.out
      have hB' := hB.out
      go_wp2_with fail
      go_ret2
      exact ⟨rfl, rfl⟩
    · have hy1 := hk1 (by omega)
      have hpow : Hid (y = 2 ^ (k - 1) ∧ (n < (((x + 2 * y) * (x + 2 * y) : Nat) : Int) ∨ x + 2 * y = 2147483648)) := by
        rcases hi.out with h | h
        · exact absurd h.1 h0
        · exact h.2
      clear hi hk0 hk1
      have hyp : 0 < (y : Int) := by omega
      obtain ⟨z, hz⟩ : ∃ z : Nat, z = x + y := ⟨_, rfl⟩
      have hzl : z ≤ 2147483647 := by omega
      have hzz : z * z ≤ 2147483647 * 2147483647 := sq_le hzl
      have hzi : (z : Int) * z ≤ 4611686014132420609 := by have : ((z * z : Nat) : Int) = (z : Int) * z := Int.natCast_mul z z; omega
      have hz0 : 0 ≤ (z : Int) * z := Int.mul_nonneg (by omega) (by omega)
      have hq : (x : Int) + y = (z : Int) := by omega
      -- the next bit
      have hnext : ∀ v : Nat, v ≤ z → (n < (((v + y) * (v + y) : Nat) : Int) ∨ v + y = 2147483648) → ∃ y2 k2 : Nat, y2 = y / 2 ∧ k2 = k - 1 ∧ k2 ≤ 31 ∧ y2 ≤ 1073741824 ∧ v + 2 * y2 ≤ 2147483648 ∧ ((k2 = 0 ∧ y2 = 0 ∧ (n < (((v + 1) * (v + 1) : Nat) : Int) ∨ v = 2147483647)) ∨ (1 ≤ k2 ∧ y2 = 2 ^ (k2 - 1) ∧ (n < (((v + 2 * y2) * (v + 2 * y2) : Nat) : Int) ∨ v + 2 * y2 = 2147483648))) ∧ (k2 = 0 → y2 = 0) ∧ (1 ≤ k2 → 1 ≤ y2) := by
        intro v hvz hv2
        refine ⟨y / 2, k - 1, rfl, rfl, by omega, by omega, by omega, ?_, ?_, ?_⟩
        · by_cases hk1 : k = 1
          · subst hk1
            have hy1 : y = 1 := hpow.out.1
            subst hy1
            exact .inl ⟨rfl, rfl, hv2.imp_right (by omega)⟩
          · obtain ⟨j, rfl⟩ : ∃ j, k = j + 2 := ⟨k - 2, by omega⟩
            have e := hpow.out.1
            have e2 : y / 2 = 2 ^ j := by rw [e]; exact bits_half j
            have e3 : 2 * (y / 2) = y := by rw [e2, e]; show 2 * 2 ^ j = 2 ^ (j + 1); rw [Nat.pow_succ]; omega
            refine .inr ⟨by omega, by rw [e2]; rfl, ?_⟩
            rw [e3]; exact hv2
        · intro hk2
          have hk1 : k = 1 := by omega
          have := hpow.out.1
          rw [hk1] at this
          have : y = 1 := this
          omega
        · intro hk2
          obtain ⟨j, rfl⟩ : ∃ j, k = j + 2 := ⟨k - 2, by omega⟩
          have e := hpow.out.1
          have e2 : y / 2 = 2 ^ j := by rw [e]; exact bits_half j
          rw [e2]; exact Nat.one_le_two_pow
      replace hnext := Lib.hid hnext
      by_cases hc : ((z * z : Nat) : Int) ≤ n
      · obtain ⟨y2, k2, hy2, hk2, q1, q2, q0, q3, q4, q5⟩ := hnext.out z (Nat.le_refl _) (by have := hpow.out.2; rw [show z + y = x + 2 * y from by omega]; exact this)
        have hd : decide ((z : Int) * z ≤ n) = true := by
          have : ((z * z : Nat) : Int) = (z : Int) * z := Int.natCast_mul z z
          simp only [decide_eq_true_eq]; omega
        rw [← hq] at hzi hz0 hd
        have hq' := Lib.hid hq
        have hc' := Lib.hid hc
        replace hy2 := Lib.hid hy2
        replace q3 := Lib.hid q3
        replace q4 := Lib.hid q4
        replace q5 := Lib.hid q5
        clear hq hc hz hk2 hnext hpow h0
        go_wp2_with fail
        go_round
        case rel => exact ⟨z, y2, k2, q1, q2, q0, hzl, q3, Lib.hid (.inr hc'.out), q4.out, q5.out, by rw [hq'.out], by rw [hy2.out]; simp⟩
        case measure => simp [intOf]; omega
      · obtain ⟨y2, k2, hy2, hk2, q1, q2, q0, q3, q4, q5⟩ := hnext.out x (by omega) (by rw [← hz]; exact .inl (by omega))
        have hd : decide ((z : Int) * z ≤ n) = false := by
          have : ((z * z : Nat) : Int) = (z : Int) * z := Int.natCast_mul z z
          simp only [decide_eq_false_iff_not]; omega
        rw [← hq] at hzi hz0 hd
        have hq' := Lib.hid hq
        replace hy2 := Lib.hid hy2
        replace q3 := Lib.hid q3
        replace q4 := Lib.hid q4
        replace q5 := Lib.hid q5
        clear hq hc hz hk2 hnext hpow h0
        go_wp2_with fail
        go_round
        case rel => exact ⟨x, y2, k2, q1, q2, q0, hx, q3, hl, q4.out, q5.out, rfl, by rw [hy2.out]; simp⟩
        case measure => simp [intOf]; omega
theorem exactRoot_any (n : Nat) (w : World) (hn : n ≤ 1000000000) : ∀ R : Nat, Root R n → ∀ B : Bool, ((R : Int) * R == n) = B →
    Calls Tryd.prog 35 #[.int .i64 (n : Int)] w fun e w' => e = .returned (.tuple #[.int .i64 (R : Int), .bool B]) ∧ w = w' :=
  fun R hR B hB => exactRootW_any n w R (.of_root hR (by omega)) B hB
end Go.Proofs.YtchglkcfolannabDoor
