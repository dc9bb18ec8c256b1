/- l1In, l1All, cuGood, IsCubic, cuValue of the model (own work). -/
import Derived.Test.YtbgoiflkpefckaaCuBox
import Derived.IntWalk
namespace Go.Proofs.Ytbgoiflkpefckaa
open Go.RowKit Go.Joins

set_option maxHeartbeats 400000 in
theorem l1In_yes (n lo hi : Int) (w : World) (h1 : lo ≤ n) (h2 : n ≤ hi) :
    Calls Try.prog 62 #[.int .i64 n, .int .i64 lo, .int .i64 hi] w fun e w' => e = .returned (.bool true) ∧ w = w' := by
  go_enter Try.func62, Try.ntmps62
  go_wp2
  go_ret
  exact ⟨rfl, rfl⟩

set_option maxHeartbeats 400000 in
theorem l1In_no (n lo hi : Int) (w : World) (h : n < lo ∨ hi < n) :
    Calls Try.prog 62 #[.int .i64 n, .int .i64 lo, .int .i64 hi] w fun e w' => e = .returned (.bool false) ∧ w = w' := by
  by_cases h1 : lo ≤ n
  · have d : decide (n ≤ hi) = false := by simp; omega
    clear h
    go_enter Try.func62, Try.ntmps62
    go_wp2
    go_ret
    exact ⟨rfl, rfl⟩
  · clear h
    go_enter Try.func62, Try.ntmps62
    go_wp2
    go_ret
    exact ⟨rfl, rfl⟩


set_option maxHeartbeats 1000000 in
theorem l1All_yes (b n c : Nat) (lo hi : Int) (r : Nat → Int) (w : World) (hn : n ≤ 1000) (hr : ∀ k, k < n → w.cell? ⟨b, k, none⟩ = some (.int .i64 (r k))) (ha : ∀ k, k < n → lo ≤ r k ∧ r k ≤ hi) :
    Calls Try.prog 75 #[.slice (some ⟨b, 0, none⟩) n c, .int .i64 lo, .int .i64 hi] w fun e w' => e = .returned (.bool true) ∧ w = w' := by
  replace hr := Lib.hid hr
  replace ha := Lib.hid ha
  go_enter Try.func75, Try.ntmps75
  go_wp2_with fail
  go_loop [11] (fun i => ∃ k : Nat, k ≤ n ∧ i = .int .i64 k) (fun i => n - (intOf i).toNat)
  case atStart => exact ⟨0, Nat.zero_le _, rfl⟩
  case round =>
    obtain ⟨k, hk, rfl⟩ := hrel
    by_cases hlt : k < n
    · have hc := hr.out k hlt
      obtain ⟨h1, h2⟩ := ha.out k hlt
      go_wp2_with fail
      refine (l1In_yes _ lo hi _ h1 h2).mono ?_
      rintro e w1 ⟨rfl, rfl⟩
      go_wp2_with fail
      exact ⟨⟨k + 1, by omega, by simp⟩, by simp [intOf]; omega⟩
    · go_wp2_with fail
      go_ret
      exact ⟨rfl, rfl⟩

set_option maxHeartbeats 1000000 in
theorem l1All_no (b n c j : Nat) (lo hi : Int) (r : Nat → Int) (w : World) (hn : n ≤ 1000) (hr : ∀ k, k < n → w.cell? ⟨b, k, none⟩ = some (.int .i64 (r k))) (hj : j < n) (ha : ∀ k, k < j → lo ≤ r k ∧ r k ≤ hi) (hb : r j < lo ∨ hi < r j) :
    Calls Try.prog 75 #[.slice (some ⟨b, 0, none⟩) n c, .int .i64 lo, .int .i64 hi] w fun e w' => e = .returned (.bool false) ∧ w = w' := by
  replace hr := Lib.hid hr
  replace ha := Lib.hid ha
  replace hb := Lib.hid hb
  go_enter Try.func75, Try.ntmps75
  go_wp2_with fail
  go_loop [11] (fun i => ∃ k : Nat, k ≤ j ∧ i = .int .i64 k) (fun i => n - (intOf i).toNat)
  case atStart => exact ⟨0, Nat.zero_le _, rfl⟩
  case round =>
    obtain ⟨k, hk, rfl⟩ := hrel
    have hlt : k < n := by omega
    have hc := hr.out k hlt
    by_cases hkj : k < j
    · obtain ⟨h1, h2⟩ := ha.out k hkj
      go_wp2_with fail
      refine (l1In_yes _ lo hi _ h1 h2).mono ?_
      rintro e w1 ⟨rfl, rfl⟩
      go_wp2_with fail
      exact ⟨⟨k + 1, by omega, by simp⟩, by simp [intOf]; omega⟩
    · obtain rfl : k = j := by omega
      go_wp2_with fail
      refine (l1In_no _ lo hi _ hb.out).mono ?_
      rintro e w1 ⟨rfl, rfl⟩
      go_wp2_with fail
      go_ret
      exact ⟨rfl, rfl⟩

/-- A list of four, all of them in or not. -/
theorem l1All_four (b c : Nat) (x0 x1 x2 x3 lo hi : Int) (w : World) (hx : Box w b 3 #[.int .i64 x0, .int .i64 x1, .int .i64 x2, .int .i64 x3]) (ok : Bool) (hok : ok = decide ((lo ≤ x0 ∧ x0 ≤ hi) ∧ (lo ≤ x1 ∧ x1 ≤ hi) ∧ (lo ≤ x2 ∧ x2 ≤ hi) ∧ (lo ≤ x3 ∧ x3 ≤ hi))) :
    Calls Try.prog 75 #[.slice (some ⟨b, 0, none⟩) 4 c, .int .i64 lo, .int .i64 hi] w fun e w' => e = .returned (.bool ok) ∧ w = w' := by
  let r : Nat → Int := fun k => if k = 0 then x0 else if k = 1 then x1 else if k = 2 then x2 else x3
  have hr : ∀ k, k < 4 → w.cell? ⟨b, k, none⟩ = some (.int .i64 (r k)) := fun k hk => by
    rcases k with _ | _ | _ | _ | k
    · exact hx.cell 0
    · exact hx.cell 1
    · exact hx.cell 2
    · exact hx.cell 3
    · omega
  by_cases h0 : lo ≤ x0 ∧ x0 ≤ hi
  · by_cases h1 : lo ≤ x1 ∧ x1 ≤ hi
    · by_cases h2 : lo ≤ x2 ∧ x2 ≤ hi
      · by_cases h3 : lo ≤ x3 ∧ x3 ≤ hi
        · obtain rfl : ok = true := hok.trans (decide_eq_true ⟨h0, h1, h2, h3⟩)
          exact l1All_yes b 4 c lo hi r w (by omega) hr (fun k hk => by
            rcases k with _ | _ | _ | _ | k
            · exact h0
            · exact h1
            · exact h2
            · exact h3
            · omega)
        · obtain rfl : ok = false := hok.trans (decide_eq_false fun h => h3 h.2.2.2)
          exact l1All_no b 4 c 3 lo hi r w (by omega) hr (by omega) (fun k hk => by
            rcases k with _ | _ | _ | k
            · exact h0
            · exact h1
            · exact h2
            · omega) (by show x3 < lo ∨ hi < x3; omega)
      · obtain rfl : ok = false := hok.trans (decide_eq_false fun h => h2 h.2.2.1)
        exact l1All_no b 4 c 2 lo hi r w (by omega) hr (by omega) (fun k hk => by
          rcases k with _ | _ | k
          · exact h0
          · exact h1
          · omega) (by show x2 < lo ∨ hi < x2; omega)
    · obtain rfl : ok = false := hok.trans (decide_eq_false fun h => h1 h.2.1)
      exact l1All_no b 4 c 1 lo hi r w (by omega) hr (by omega) (fun k hk => by
        rcases k with _ | k
        · exact h0
        · omega) (by show x1 < lo ∨ hi < x1; omega)
  · obtain rfl : ok = false := hok.trans (decide_eq_false fun h => h0 h.1)
    exact l1All_no b 4 c 0 lo hi r w (by omega) hr (by omega) (fun k hk => by omega) (by show x0 < lo ∨ hi < x0; omega)
end Go.Proofs.Ytbgoiflkpefckaa
