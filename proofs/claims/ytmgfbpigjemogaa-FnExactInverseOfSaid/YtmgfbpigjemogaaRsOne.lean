/- IsPrimeNumber, ResidueOf: the laws. -/
import Derived.Test.YtmgfbpigjemogaaRsRes
import Derived.Test.YtmgfbpigjemogaaRsLaws
namespace Go.Proofs.Ytmgfbpigjemogaa
open Go.RowKit Go.Joins

set_option maxHeartbeats 400000 in
theorem specResidueOf_yes (a : Int) (p : Nat) (w : World) (hp : Pr p) (hp2 : p ≤ 997) (ha : IsA a) : ∀ r : Nat, (r : Int) = a % p →
    Calls Try.prog 11 #[.int .i64 a, .int .i64 (p : Int)] w fun e w' => e = .returned (.tuple #[.int .i64 (r : Int), .bool true]) ∧ w = w' := by
  intro r hr
  have c := fun W => mdAsked_yes a p W (IsP.nat.2 ⟨hp, hp2⟩) ha
  have c2 := fun W => mdMod_any a p W ha hp.1 hp2 r hr
  replace c := Lib.hid c
  replace c2 := Lib.hid c2
  clear hp hr
  go_enter Try.func11, Try.ntmps11
  go_wp2_with fail
  refine (c.out _).mono ?_
  rintro e w' ⟨rfl, rfl⟩
  go_wp2_with fail
  refine (c2.out _).mono ?_
  rintro e w' ⟨rfl, rfl⟩
  go_wp2_with fail
  go_ret2
  exact ⟨rfl, rfl⟩

set_option maxHeartbeats 400000 in
theorem specResidueOf_no (a p : Int) (w : World) (h : ¬ (IsP p ∧ IsA a)) :
    Calls Try.prog 11 #[.int .i64 a, .int .i64 p] w fun e w' => e = .returned (.tuple #[.int .i64 0, .bool false]) ∧ w = w' := by
  have c := fun W => mdAsked_no a p W h
  replace c := Lib.hid c
  go_enter Try.func11, Try.ntmps11
  go_wp2_with fail
  refine (c.out _).mono ?_
  rintro e w' ⟨rfl, rfl⟩
  go_wp2_with fail
  go_ret2
  exact ⟨rfl, rfl⟩

/-- The residue as a natural number. -/
theorem res_nat (a : Int) {p : Nat} (hp : 2 ≤ p) : ∃ r : Nat, (r : Int) = a % p ∧ r < p := by
  have h1 : 0 ≤ a % (p : Int) := Int.emod_nonneg _ (by omega)
  have h2 : a % (p : Int) < p := Int.emod_lt_of_pos _ (by omega)
  exact ⟨(a % (p : Int)).toNat, by omega, by omega⟩

theorem lawResidueOf_any (z0 z1 : Int) (w : World) (_h0 : -9223372036854775808 ≤ z0 ∧ z0 ≤ 9223372036854775807) (_h1 : -9223372036854775808 ≤ z1 ∧ z1 ≤ 9223372036854775807) :
    Calls Try.prog 3 #[.int .i64 z0, .int .i64 z1] w fun e w' => e = .returned (.bool true) ∧ Below w.heap.size w w' := by
  by_cases h : IsP z1 ∧ IsA z0
  · obtain ⟨⟨p, rfl, hp, hp2⟩, ha⟩ := h
    obtain ⟨r, hr, _⟩ := res_nat z0 hp.1
    exact lawResidueOf_core z0 p w r true (fun W => givesIntOk_of (specResidueOf_yes z0 p W hp hp2 ha r hr)) (fun W => givesIntOk_of (residueOf_yes z0 p W hp hp2 ha r hr))
  · exact lawResidueOf_core z0 z1 w 0 false (fun W => givesIntOk_of (specResidueOf_no z0 z1 W h)) (fun W => givesIntOk_of (residueOf_no z0 z1 W h))
end Go.Proofs.Ytmgfbpigjemogaa
