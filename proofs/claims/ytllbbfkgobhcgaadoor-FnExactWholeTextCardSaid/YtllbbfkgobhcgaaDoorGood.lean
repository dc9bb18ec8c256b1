import Derived.Test.YtllbbfkgobhcgaaDoorMem
namespace Go.Proofs.YtllbbfkgobhcgaaDoor
open Go.RowKit Go.Joins

set_option maxHeartbeats 400000 in
theorem l1In_yes (n lo hi : Int) (w : World) (h1 : lo ≤ n) (h2 : n ≤ hi) :
    Calls Tryd.prog 28 #[.int .i64 n, .int .i64 lo, .int .i64 hi] w fun e w' => e = .returned (.bool true) ∧ w = w' := by
  go_enter Tryd.func28, Tryd.ntmps28
  go_wp2
  go_ret
  exact ⟨rfl, rfl⟩

set_option maxHeartbeats 400000 in
theorem l1In_no (n lo hi : Int) (w : World) (h : n < lo ∨ hi < n) :
    Calls Tryd.prog 28 #[.int .i64 n, .int .i64 lo, .int .i64 hi] w fun e w' => e = .returned (.bool false) ∧ w = w' := by
  by_cases h1 : lo ≤ n
  · have d : decide (n ≤ hi) = false := by simp; omega
    clear h
    go_enter Tryd.func28, Tryd.ntmps28
    go_wp2
    go_ret
    exact ⟨rfl, rfl⟩
  · clear h
    go_enter Tryd.func28, Tryd.ntmps28
    go_wp2
    go_ret
    exact ⟨rfl, rfl⟩

/-- Each of the numbers lies within bounds. -/
def Rng (lo hi : Int) (xs : List Int) : Prop := ∀ k : Nat, k < xs.length → lo ≤ xs[k]?.getD 0 ∧ xs[k]?.getD 0 ≤ hi

/-- The first one that does not. -/
theorem Rng.first {lo hi : Int} {xs : List Int} (h : ¬ Rng lo hi xs) : ∃ j : Nat, j < xs.length ∧ (xs[j]?.getD 0 < lo ∨ hi < xs[j]?.getD 0) ∧ ∀ k, k < j → lo ≤ xs[k]?.getD 0 ∧ xs[k]?.getD 0 ≤ hi := by
  have key : ∀ n, (∃ j : Nat, j < n ∧ (xs[j]?.getD 0 < lo ∨ hi < xs[j]?.getD 0) ∧ ∀ k, k < j → lo ≤ xs[k]?.getD 0 ∧ xs[k]?.getD 0 ≤ hi) ∨ ∀ k, k < n → lo ≤ xs[k]?.getD 0 ∧ xs[k]?.getD 0 ≤ hi := by
    intro n
    induction n with
    | zero => exact .inr fun k hk => by omega
    | succ n ih =>
      rcases ih with ⟨j, hj, h1, h2⟩ | hall
      · exact .inl ⟨j, by omega, h1, h2⟩
      · by_cases hn : lo ≤ xs[n]?.getD 0 ∧ xs[n]?.getD 0 ≤ hi
        · refine .inr fun k hk => ?_
          by_cases e : k = n
          · subst e; exact hn
          · exact hall k (by omega)
        · exact .inl ⟨n, by omega, by omega, hall⟩
  rcases key xs.length with hh | hh
  · exact hh
  · exact absurd hh h

set_option maxHeartbeats 400000 in
theorem l1All_yes (A : Option Addr) (n c B : Nat) (lo hi : Int) (xs : List Int) (w : World) (hn : n ≤ 9223372036854775807) (h : Rd w B A n xs) (hr : Rng lo hi xs) :
    Calls Tryd.prog 20 #[.slice A n c, .int .i64 lo, .int .i64 hi] w fun e w' => e = .returned (.bool true) ∧ w = w' := by
  have hl : Hid (xs.length = n) := h.1
  go_enter Tryd.func20, Tryd.ntmps20
  go_wp2
  go_loop [11] (fun i => ∃ k : Nat, k ≤ n ∧ i = .int .i64 k) (fun i => n - (intOf i).toNat)
  case atStart => exact ⟨0, Nat.zero_le _, rfl⟩
  case round =>
    obtain ⟨k, hk, rfl⟩ := hrel
    by_cases hlt : k < n
    · obtain ⟨b, o, rfl, hbs, hc⟩ := h.2 (by omega)
      have hread := hc k hlt
      obtain ⟨g1, g2⟩ := hr k (by rw [hl.out]; exact hlt)
      clear hc h hr
      go_wp2_with (go_at_call 28; refine (l1In_yes _ lo hi _ g1 g2).mono ?_; rintro e w' ⟨rfl, rfl⟩)
      go_round
      case rel => exact ⟨k + 1, by omega, by go_num⟩
      case measure => simp [intOf]; omega
    · go_wp2
      go_ret
      exact ⟨rfl, rfl⟩

set_option maxHeartbeats 400000 in
theorem l1All_no (A : Option Addr) (n c B : Nat) (lo hi : Int) (xs : List Int) (w : World) (hn : n ≤ 9223372036854775807) (h : Rd w B A n xs) (hr : ¬ Rng lo hi xs) :
    Calls Tryd.prog 20 #[.slice A n c, .int .i64 lo, .int .i64 hi] w fun e w' => e = .returned (.bool false) ∧ w = w' := by
  have hl : Hid (xs.length = n) := h.1
  obtain ⟨j, hj, hbad, hgood⟩ := Rng.first hr
  have hj' : j < n := by rw [← hl.out]; exact hj
  clear hr hj
  obtain ⟨b, o, rfl, hbs, hc⟩ := h.2 (by omega)
  clear h
  have hc' := Lib.hid hc
  have hgood' := Lib.hid hgood
  clear hc hgood
  go_enter Tryd.func20, Tryd.ntmps20
  go_wp2
  go_loop [11] (fun i => ∃ k : Nat, k ≤ j ∧ i = .int .i64 k) (fun i => n - (intOf i).toNat)
  case atStart => exact ⟨0, Nat.zero_le _, rfl⟩
  case round =>
    obtain ⟨k, hk, rfl⟩ := hrel
    have hread := hc'.out k (by omega)
    have hlt : k < n := by omega
    by_cases he : k = j
    · subst he
      go_wp2_with (go_at_call 28; refine (l1In_no _ lo hi _ hbad).mono ?_; rintro e w' ⟨rfl, rfl⟩)
      go_ret
      exact ⟨rfl, rfl⟩
    · obtain ⟨g1, g2⟩ := hgood'.out k (by omega)
      go_wp2_with (go_at_call 28; refine (l1In_yes _ lo hi _ g1 g2).mono ?_; rintro e w' ⟨rfl, rfl⟩)
      go_round
      case rel => exact ⟨k + 1, by omega, by go_num⟩
      case measure => simp [intOf]; omega
end Go.Proofs.YtllbbfkgobhcgaaDoor
