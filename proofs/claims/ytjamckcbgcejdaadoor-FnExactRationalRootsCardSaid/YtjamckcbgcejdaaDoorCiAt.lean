/- The program's sign of a value, CubicAt, CubicDiscriminant, RealRootCount, validCubic, ReverseCubic (written by wip/gen/cui.py). -/
import Derived.Test.YtjamckcbgcejdaaDoorCiBase
import Derived.Deep.QuietTactic
import Derived.BigQuiet
import Derived.RegionTactic
import Derived.ChangeAlike
namespace Go.Proofs.YtjamckcbgcejdaaDoor
open Go.RowKit Go.Joins

theorem compare_any (x y : Int) (w : World) : Calls Tryd.prog 38 #[.int .i64 x, .int .i64 y] w fun e w' => e = .returned (.int .i64 (sgn (x - y))) ∧ w = w' := by
  unfold sgn
  by_cases h1 : 0 < x - y
  · rw [if_pos h1]; exact compare_gt x y w (by omega)
  · rw [if_neg h1]
    by_cases h2 : x - y < 0
    · rw [if_pos h2]; exact compare_lt x y w (by omega)
    · rw [if_neg h2]; exact compare_eq x y w (by omega)

set_option maxHeartbeats 1000000 in
theorem signI_any (a b c d n m : Int) (g : Nat) (w : World) (hx : Box w g 28 #[.int .i64 a, .int .i64 b, .int .i64 c, .int .i64 d]) (ha : -1000 ≤ a ∧ a ≤ 1000) (hb : -1000 ≤ b ∧ b ≤ 1000) (hc : -1000 ≤ c ∧ c ≤ 1000) (hd : -1000 ≤ d ∧ d ≤ 1000) (hn : -10000 ≤ n ∧ n ≤ 10000) (hm : -1000 ≤ m ∧ m ≤ 1000) (S : Int) (hS : sgn (cuVal a b c d n m) = S) :
    Calls Tryd.prog 31 #[.agg #[.func (.func 47) #[] #[.pointer (some ⟨g, 0, none⟩)]], .int .i64 n, .int .i64 m] w fun e w' => e = .returned (.int .i64 S) ∧ w.alloc (.cells #[.func (.func 47) #[] #[.pointer (some ⟨g, 0, none⟩)]] 52) = w' := by
  obtain ⟨V, hV⟩ : ∃ V, cuVal a b c d n m = V := ⟨_, rfl⟩
  have key := fun (W : World) (h : Box W g 28 #[.int .i64 a, .int .i64 b, .int .i64 c, .int .i64 d]) => value_any a b c d n m g W h ha hb hc hd hn hm V hV
  have kc := fun (W : World) => compare_any V 0 W
  rw [hV] at hS
  rw [Int.sub_zero, hS] at kc
  have hA := below_alloc1 w (.cells #[.func (.func 47) #[] #[.pointer (some ⟨g, 0, none⟩)]] 52)
  have hx2 := hx.kept hA
  have hxv := Box.new w 52 #[.func (.func 47) #[] #[.pointer (some ⟨g, 0, none⟩)]]
  have kk := Box.one hxv
  have k2 := key _ hx2
  replace k2 := Lib.hid k2
  replace kc := Lib.hid kc
  clear hV hS ha hb hc hd hn hm key hx hxv hA hx2
  go_enter Tryd.func31, Tryd.ntmps31
  go_wp2_with fail
  refine (k2.out).mono ?_
  rintro e w1 ⟨rfl, rfl⟩
  go_wp2_with fail
  refine (kc.out _).mono ?_
  rintro e w1 ⟨rfl, rfl⟩
  go_wp2_with fail
  go_ret
  exact ⟨rfl, rfl⟩

end Go.Proofs.YtjamckcbgcejdaaDoor
