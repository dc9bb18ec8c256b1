/- The order of limbs and of wholes: the model's and the program's functions hand back the same. -/
import Derived.Test.YtllbbfkgobhcgaaPwGood
import Derived.Deep.QuietTactic
import Derived.BigQuiet
namespace Go.Proofs.Ytllbbfkgobhcgaa
open Go.RowKit Go.Joins

def cmpI (x y : Int) : Int := if x < y then -1 else if y < x then 1 else 0
def cmpTo (xs ys : List Int) : Nat → Int
  | 0 => 0
  | k + 1 => if xs[k]?.getD 0 < ys[k]?.getD 0 then -1 else if ys[k]?.getD 0 < xs[k]?.getD 0 then 1 else cmpTo xs ys k

theorem cmpTo_lt {xs ys : List Int} {k : Nat} (h : xs[k]?.getD 0 < ys[k]?.getD 0) : cmpTo xs ys (k + 1) = -1 := by simp [cmpTo, h]
theorem cmpTo_gt {xs ys : List Int} {k : Nat} (h : ys[k]?.getD 0 < xs[k]?.getD 0) : cmpTo xs ys (k + 1) = 1 := by
  have : ¬ xs[k]?.getD 0 < ys[k]?.getD 0 := by omega
  simp [cmpTo, h, this]
theorem cmpTo_eq {xs ys : List Int} {k : Nat} (h : xs[k]?.getD 0 = ys[k]?.getD 0) : cmpTo xs ys (k + 1) = cmpTo xs ys k := by simp [cmpTo, h]

set_option maxHeartbeats 400000 in
theorem l1Most_any (a b : Int) (w : World) :
    Calls Try.prog 10 #[.int .i64 a, .int .i64 b] w fun e w' => e = .returned (.int .i64 (max a b)) ∧ w = w' := by
  by_cases h : b < a
  · rw [Int.max_eq_left (by omega)]
    go_enter Try.func10, Try.ntmps10
    go_wp2
    go_ret
    exact ⟨rfl, rfl⟩
  · rw [Int.max_eq_right (by omega)]
    go_enter Try.func10, Try.ntmps10
    go_wp2
    go_ret
    exact ⟨rfl, rfl⟩

end Go.Proofs.Ytllbbfkgobhcgaa
