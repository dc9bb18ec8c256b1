/- impl.RationalRoots whatever the cubic, impl.IsIrreducibleCubic (own work). -/
import Derived.Test.YtjamckcbgcejdaaDoorCuRootsI
import Derived.Test.YtjamckcbgcejdaaDoorCuRootsZ
namespace Go.Proofs.YtjamckcbgcejdaaDoor
open Go.RowKit Go.Joins

theorem rootsI_yes (a b c d : Int) (w : World) (hL : Lim w) (g : CuG a b c d) (M : List (Int × Int)) (hM : RL a b c d M) : Calls Tryd.prog 13 #[.agg #[.int .i64 a, .int .i64 b, .int .i64 c, .int .i64 d]] w (GivesFRowOk w M true) := by
  by_cases hd : d = 0
  · subst hd
    exact rootsI_zero a b c w hL g M hM
  · exact rootsI_else a b c d w hL g hd M hM

set_option maxHeartbeats 1000000 in
theorem rootsI_bad (a b c d : Int) (w : World) (g : ¬ CuG a b c d) : Calls Tryd.prog 13 #[.agg #[.int .i64 a, .int .i64 b, .int .i64 c, .int .i64 d]] w (GivesFRowOk w [] false) := by
  have h := below_alloc1 w (.cells #[.int .i64 a, .int .i64 b, .int .i64 c, .int .i64 d] 28)
  have hx0 := Box.new w 28 #[.int .i64 a, .int .i64 b, .int .i64 c, .int .i64 d]
  obtain ⟨k0, k1, k2, k3⟩ := hx0.four
  go_enter Tryd.func13, Tryd.ntmps13
  go_wp2_with fail
  refine (isCubicI_no a b c d _ g).mono ?_
  rintro e w1 ⟨rfl, hb⟩
  replace h := Below.step h hb
  go_wp2_with fail
  go_ret2
  exact ⟨none, 0, rfl, ownF_nil _ _, h⟩

set_option maxHeartbeats 1000000 in
theorem irrI_any (a b c d : Int) (w : World) (M : List (Int × Int)) (good ok : Bool) (key : ∀ W, Lim W → Calls Tryd.prog 13 #[.agg #[.int .i64 a, .int .i64 b, .int .i64 c, .int .i64 d]] W (GivesFRowOk W M good)) (hL : Lim w) (hok : (good && ((M.length : Int) == 0)) = ok) : Calls Tryd.prog 20 #[.agg #[.int .i64 a, .int .i64 b, .int .i64 c, .int .i64 d]] w (GivesBB w ok good) := by
  replace key := Lib.hid key
  have h := below_alloc1 w (.cells #[.int .i64 a, .int .i64 b, .int .i64 c, .int .i64 d] 28)
  have hx0 := Box.new w 28 #[.int .i64 a, .int .i64 b, .int .i64 c, .int .i64 d]
  have hL1 := Lib.hid (hL.kept h)
  clear hL
  obtain ⟨k0, k1, k2, k3⟩ := hx0.four
  obtain ⟨n, hn⟩ : ∃ n, n = M.length := ⟨_, rfl⟩
  rw [← hn] at hok
  replace hok := Lib.hid hok
  rcases good with _ | _
  · go_enter Tryd.func20, Tryd.ntmps20
    go_wp2_with fail
    refine (key.out _ hL1.out).mono ?_
    rintro e w1 ⟨A', c', rfl, ho, hb⟩
    rw [← hn]
    replace h := Below.step h hb
    clear k0 k1 k2 k3 ho hn
    go_wp2_with fail
    go_ret2
    exact ⟨congrArg (fun z => Ending.returned (.tuple #[.bool z, .bool false])) hok.out, h⟩
  · go_enter Tryd.func20, Tryd.ntmps20
    go_wp2_with fail
    refine (key.out _ hL1.out).mono ?_
    rintro e w1 ⟨A', c', rfl, ho, hb⟩
    rw [← hn]
    replace h := Below.step h hb
    clear k0 k1 k2 k3 ho hn
    go_wp2_with fail
    go_ret2
    exact ⟨congrArg (fun z => Ending.returned (.tuple #[.bool z, .bool true])) hok.out, h⟩
end Go.Proofs.YtjamckcbgcejdaaDoor
