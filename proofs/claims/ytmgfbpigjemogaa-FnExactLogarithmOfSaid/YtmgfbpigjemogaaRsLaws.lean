/- The cores of the laws with ints in and an int and a bool out (written by wip/gen/lawint.py). -/
import Derived.Test.YtmgfbpigjemogaaMem
namespace Go.Proofs.Ytmgfbpigjemogaa
open Go.RowKit Go.Joins

set_option maxHeartbeats 1000000 in
theorem lawResidueOf_core (z0 z1 : Int) (w : World) (r : Int) (ok : Bool)
    (hS : ∀ (w : World), Calls Try.prog 11 #[.int .i64 z0, .int .i64 z1] w (GivesIntOk w r ok))
    (hI : ∀ (w : World), Calls Try.prog 12 #[.int .i64 z0, .int .i64 z1] w (GivesIntOk w r ok)) :
    Calls Try.prog 3 #[.int .i64 z0, .int .i64 z1] w fun e w' => e = .returned (.bool true) ∧ Below w.heap.size w w' := by
  have e0 : (r != r) = false := by simp
  have e1 : (ok != ok) = false := by simp
  replace hS := Lib.hid hS
  replace hI := Lib.hid hI
  go_enter Try.func3, Try.ntmps3
  go_wp2_with fail
  refine (hS.out _).mono ?_
  rintro e w1 ⟨rfl, h⟩
  go_wp2_with fail
  refine (hI.out _).mono ?_
  rintro e w2 ⟨rfl, hb⟩
  replace h := Below.step h hb
  clear hb
  go_wp2
  go_ret
  exact ⟨rfl, h⟩

set_option maxHeartbeats 1000000 in
theorem lawInverseOf_core (z0 z1 : Int) (w : World) (r : Int) (ok : Bool)
    (hS : ∀ (w : World), Calls Try.prog 13 #[.int .i64 z0, .int .i64 z1] w (GivesIntOk w r ok))
    (hI : ∀ (w : World), Calls Try.prog 14 #[.int .i64 z0, .int .i64 z1] w (GivesIntOk w r ok)) :
    Calls Try.prog 4 #[.int .i64 z0, .int .i64 z1] w fun e w' => e = .returned (.bool true) ∧ Below w.heap.size w w' := by
  have e0 : (r != r) = false := by simp
  have e1 : (ok != ok) = false := by simp
  replace hS := Lib.hid hS
  replace hI := Lib.hid hI
  go_enter Try.func4, Try.ntmps4
  go_wp2_with fail
  refine (hS.out _).mono ?_
  rintro e w1 ⟨rfl, h⟩
  go_wp2_with fail
  refine (hI.out _).mono ?_
  rintro e w2 ⟨rfl, hb⟩
  replace h := Below.step h hb
  clear hb
  go_wp2
  go_ret
  exact ⟨rfl, h⟩

set_option maxHeartbeats 1000000 in
theorem lawPowerOf_core (z0 z1 z2 : Int) (w : World) (r : Int) (ok : Bool)
    (hS : ∀ (w : World), Calls Try.prog 15 #[.int .i64 z0, .int .i64 z1, .int .i64 z2] w (GivesIntOk w r ok))
    (hI : ∀ (w : World), Calls Try.prog 16 #[.int .i64 z0, .int .i64 z1, .int .i64 z2] w (GivesIntOk w r ok)) :
    Calls Try.prog 5 #[.int .i64 z0, .int .i64 z1, .int .i64 z2] w fun e w' => e = .returned (.bool true) ∧ Below w.heap.size w w' := by
  have e0 : (r != r) = false := by simp
  have e1 : (ok != ok) = false := by simp
  replace hS := Lib.hid hS
  replace hI := Lib.hid hI
  go_enter Try.func5, Try.ntmps5
  go_wp2_with fail
  refine (hS.out _).mono ?_
  rintro e w1 ⟨rfl, h⟩
  go_wp2_with fail
  refine (hI.out _).mono ?_
  rintro e w2 ⟨rfl, hb⟩
  replace h := Below.step h hb
  clear hb
  go_wp2
  go_ret
  exact ⟨rfl, h⟩

set_option maxHeartbeats 1000000 in
theorem lawSquareSymbol_core (z0 z1 : Int) (w : World) (r : Int) (ok : Bool)
    (hS : ∀ (w : World), Calls Try.prog 17 #[.int .i64 z0, .int .i64 z1] w (GivesIntOk w r ok))
    (hI : ∀ (w : World), Calls Try.prog 18 #[.int .i64 z0, .int .i64 z1] w (GivesIntOk w r ok)) :
    Calls Try.prog 6 #[.int .i64 z0, .int .i64 z1] w fun e w' => e = .returned (.bool true) ∧ Below w.heap.size w w' := by
  have e0 : (r != r) = false := by simp
  have e1 : (ok != ok) = false := by simp
  replace hS := Lib.hid hS
  replace hI := Lib.hid hI
  go_enter Try.func6, Try.ntmps6
  go_wp2_with fail
  refine (hS.out _).mono ?_
  rintro e w1 ⟨rfl, h⟩
  go_wp2_with fail
  refine (hI.out _).mono ?_
  rintro e w2 ⟨rfl, hb⟩
  replace h := Below.step h hb
  clear hb
  go_wp2
  go_ret
  exact ⟨rfl, h⟩

set_option maxHeartbeats 1000000 in
theorem lawSquareRoot_core (z0 z1 : Int) (w : World) (r : Int) (ok : Bool)
    (hS : ∀ (w : World), Calls Try.prog 19 #[.int .i64 z0, .int .i64 z1] w (GivesIntOk w r ok))
    (hI : ∀ (w : World), Calls Try.prog 20 #[.int .i64 z0, .int .i64 z1] w (GivesIntOk w r ok)) :
    Calls Try.prog 7 #[.int .i64 z0, .int .i64 z1] w fun e w' => e = .returned (.bool true) ∧ Below w.heap.size w w' := by
  have e0 : (r != r) = false := by simp
  have e1 : (ok != ok) = false := by simp
  replace hS := Lib.hid hS
  replace hI := Lib.hid hI
  go_enter Try.func7, Try.ntmps7
  go_wp2_with fail
  refine (hS.out _).mono ?_
  rintro e w1 ⟨rfl, h⟩
  go_wp2_with fail
  refine (hI.out _).mono ?_
  rintro e w2 ⟨rfl, hb⟩
  replace h := Below.step h hb
  clear hb
  go_wp2
  go_ret
  exact ⟨rfl, h⟩

set_option maxHeartbeats 1000000 in
theorem lawOrderOf_core (z0 z1 : Int) (w : World) (r : Int) (ok : Bool)
    (hS : ∀ (w : World), Calls Try.prog 21 #[.int .i64 z0, .int .i64 z1] w (GivesIntOk w r ok))
    (hI : ∀ (w : World), Calls Try.prog 22 #[.int .i64 z0, .int .i64 z1] w (GivesIntOk w r ok)) :
    Calls Try.prog 8 #[.int .i64 z0, .int .i64 z1] w fun e w' => e = .returned (.bool true) ∧ Below w.heap.size w w' := by
  have e0 : (r != r) = false := by simp
  have e1 : (ok != ok) = false := by simp
  replace hS := Lib.hid hS
  replace hI := Lib.hid hI
  go_enter Try.func8, Try.ntmps8
  go_wp2_with fail
  refine (hS.out _).mono ?_
  rintro e w1 ⟨rfl, h⟩
  go_wp2_with fail
  refine (hI.out _).mono ?_
  rintro e w2 ⟨rfl, hb⟩
  replace h := Below.step h hb
  clear hb
  go_wp2
  go_ret
  exact ⟨rfl, h⟩

set_option maxHeartbeats 1000000 in
theorem lawLogarithmOf_core (z0 z1 z2 : Int) (w : World) (r : Int) (ok : Bool)
    (hS : ∀ (w : World), Calls Try.prog 23 #[.int .i64 z0, .int .i64 z1, .int .i64 z2] w (GivesIntOk w r ok))
    (hI : ∀ (w : World), Calls Try.prog 24 #[.int .i64 z0, .int .i64 z1, .int .i64 z2] w (GivesIntOk w r ok)) :
    Calls Try.prog 9 #[.int .i64 z0, .int .i64 z1, .int .i64 z2] w fun e w' => e = .returned (.bool true) ∧ Below w.heap.size w w' := by
  have e0 : (r != r) = false := by simp
  have e1 : (ok != ok) = false := by simp
  replace hS := Lib.hid hS
  replace hI := Lib.hid hI
  go_enter Try.func9, Try.ntmps9
  go_wp2_with fail
  refine (hS.out _).mono ?_
  rintro e w1 ⟨rfl, h⟩
  go_wp2_with fail
  refine (hI.out _).mono ?_
  rintro e w2 ⟨rfl, hb⟩
  replace h := Below.step h hb
  clear hb
  go_wp2
  go_ret
  exact ⟨rfl, h⟩

set_option maxHeartbeats 1000000 in
theorem lawValuationOf_core (z0 z1 : Int) (w : World) (r : Int) (ok : Bool)
    (hS : ∀ (w : World), Calls Try.prog 25 #[.int .i64 z0, .int .i64 z1] w (GivesIntOk w r ok))
    (hI : ∀ (w : World), Calls Try.prog 26 #[.int .i64 z0, .int .i64 z1] w (GivesIntOk w r ok)) :
    Calls Try.prog 10 #[.int .i64 z0, .int .i64 z1] w fun e w' => e = .returned (.bool true) ∧ Below w.heap.size w w' := by
  have e0 : (r != r) = false := by simp
  have e1 : (ok != ok) = false := by simp
  replace hS := Lib.hid hS
  replace hI := Lib.hid hI
  go_enter Try.func10, Try.ntmps10
  go_wp2_with fail
  refine (hS.out _).mono ?_
  rintro e w1 ⟨rfl, h⟩
  go_wp2_with fail
  refine (hI.out _).mono ?_
  rintro e w2 ⟨rfl, hb⟩
  replace h := Below.step h hb
  clear hb
  go_wp2
  go_ret
  exact ⟨rfl, h⟩

theorem givesIntOk_of {P : Program} {f : Nat} {args : Array Value} {w : World} {r : Int} {ok : Bool} (h : Calls P f args w fun e w' => e = .returned (.tuple #[.int .i64 r, .bool ok]) ∧ w = w') : Calls P f args w (GivesIntOk w r ok) :=
  h.mono fun _ _ ⟨h1, h2⟩ => ⟨h1, h2 ▸ Below.refl _ _⟩
theorem givesBool_of {P : Program} {f : Nat} {args : Array Value} {w : World} {ok : Bool} (h : Calls P f args w fun e w' => e = .returned (.bool ok) ∧ w = w') : Calls P f args w (GivesBool w ok) :=
  h.mono fun _ _ ⟨h1, h2⟩ => ⟨h1, h2 ▸ Below.refl _ _⟩
end Go.Proofs.Ytmgfbpigjemogaa
