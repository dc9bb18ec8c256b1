import Derived.Test.YtllbbfkgobhcgaaMem
namespace Go.Proofs.Ytllbbfkgobhcgaa
open Go.RowKit Go.Joins

set_option maxHeartbeats 400000 in
theorem l1In_yes (n lo hi : Int) (w : World) (h1 : lo ≤ n) (h2 : n ≤ hi) :
    Calls Try.prog 9 #[.int .i64 n, .int .i64 lo, .int .i64 hi] w fun e w' => e = .returned (.bool true) ∧ w = w' := by
  go_enter Try.func9, Try.ntmps9
  go_wp2
  go_ret
  exact ⟨rfl, rfl⟩

set_option maxHeartbeats 400000 in
theorem l1In_no (n lo hi : Int) (w : World) (h : n < lo ∨ hi < n) :
    Calls Try.prog 9 #[.int .i64 n, .int .i64 lo, .int .i64 hi] w fun e w' => e = .returned (.bool false) ∧ w = w' := by
  by_cases h1 : lo ≤ n
  · have d : decide (n ≤ hi) = false := by simp; omega
    clear h
    go_enter Try.func9, Try.ntmps9
    go_wp2
    go_ret
    exact ⟨rfl, rfl⟩
  · clear h
    go_enter Try.func9, Try.ntmps9
    go_wp2
    go_ret
    exact ⟨rfl, rfl⟩

/-- Each of the numbers lies within bounds. -/
def Rng (lo hi : Int) (xs : List Int) : Prop := ∀ k : Nat, k < xs.length → lo ≤ xs[k]?.getD 0 ∧ xs[k]?.getD 0 ≤ hi

/-- The first one that does not. -/
theorem Rng.first {lo hi : Int} {xs : List Int} (h : ¬ Rng lo hi xs) : ∃ j : Nat, j < xs.length ∧ (xs[j]?.getD 0 < lo ∨ hi < xs[j]?.getD 0) ∧ ∀ k, k < j → lo ≤ xs[k]?.getD 0 ∧ xs[k]?.getD 0 ≤ hi := by
  have key : ∀ n, (∃ j : Nat, j < n ∧ (xs[j]?.getD 0 < lo ∨ hi < xs[j]?.getD 0) ∧ ∀ k, k < j → lo ≤ xs[k]?.getD 0 ∧ xs[k]?.getD 0 ≤ hi) ∨ ∀ k, k < n → lo ≤ xs[k]?.getD 0 ∧ xs[k]?.getD 0 ≤ hi := by
    intro n
    induction n with
    | zero => exact .inr fun k hk => by omega
    | succ n ih =>
      rcases ih with ⟨j, hj, h1, h2⟩ | hall
      · exact .inl ⟨j, by omega, h1, h2⟩
      · by_cases hn : lo ≤ xs[n]?.getD 0 ∧ xs[n]?.getD 0 ≤ hi
        · refine .inr fun k hk => ?_
          by_cases e : k = n
          · subst e; exact hn
          · exact hall k (by omega)
        · exact .inl ⟨n, by omega, by omega, hall⟩
  rcases key xs.length with hh | hh
  · exact hh
  · exact absurd hh h

/-- What a whole must be. -/
def Good (neg : Bool) (xs : List Int) : Prop := xs.length ≤ 400 ∧ Rng 0 9999 xs ∧ (xs.length = 0 → neg = false) ∧ (0 < xs.length → 0 < xs[xs.length - 1]?.getD 0)

/-- The ways in which one is not. -/
theorem Good.no {neg : Bool} {xs : List Int} (h : ¬ Good neg xs) : 400 < xs.length ∨ (xs.length ≤ 400 ∧ ¬ Rng 0 9999 xs) ∨ (xs.length = 0 ∧ neg = true) ∨ (xs.length ≤ 400 ∧ 0 < xs.length ∧ Rng 0 9999 xs ∧ xs[xs.length - 1]?.getD 0 ≤ 0) := by
  by_cases h1 : xs.length ≤ 400
  · by_cases h2 : Rng 0 9999 xs
    · by_cases h3 : xs.length = 0
      · cases neg
        · exact absurd ⟨h1, h2, fun _ => rfl, fun h => by omega⟩ h
        · exact .inr (.inr (.inl ⟨h3, rfl⟩))
      · refine .inr (.inr (.inr ⟨h1, by omega, h2, ?_⟩))
        refine Int.not_lt.1 fun h4 => h ⟨h1, h2, fun e => absurd e h3, fun _ => h4⟩
    · exact .inr (.inl ⟨h1, h2⟩)
  · exact .inl (by omega)
end Go.Proofs.Ytllbbfkgobhcgaa
