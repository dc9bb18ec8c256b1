/- What num / den comes to in lowest terms: one contract for each side. -/
import Derived.Test.YtchglkcfolannabDoorFrLow
import Derived.Test.YtchglkcfolannabDoorPtLow
import Derived.IntWalk
namespace Go.Proofs.YtchglkcfolannabDoor
open Go.RowKit Go.Joins

theorem low_pos {n d : Int} (hd : 0 < d) : n.tdiv ((Nat.gcd n.natAbs d.natAbs : Nat) : Int) = lowP n d ∧ d / ((Nat.gcd n.natAbs d.natAbs : Nat) : Int) = lowQ n d := by
  have hs : lowS n d = ((Nat.gcd n.natAbs d.natAbs : Nat) : Int) := by unfold lowS; rw [if_neg (by omega)]
  exact ⟨by rw [← hs]; exact lowP_tdiv, by rw [← hs]; rfl⟩
theorem low_neg {n d : Int} (hd : d < 0) (hn0 : -4000000000000000000 ≤ n) (hn1 : n ≤ 4000000000000000000) (hd1 : -4000000000000000000 ≤ d) : wrap64 (-(n.tdiv ((Nat.gcd n.natAbs d.natAbs : Nat) : Int))) = lowP n d ∧ wrap64 (-(d.tdiv ((Nat.gcd n.natAbs d.natAbs : Nat) : Int))) = lowQ n d := by
  have hs : lowS n d = -((Nat.gcd n.natAbs d.natAbs : Nat) : Int) := by unfold lowS; rw [if_pos hd]
  have h1 := lowP_le (n := n) (d := d)
  have h2 := lowQ_le (n := n) (d := d)
  have e1 : -(n.tdiv ((Nat.gcd n.natAbs d.natAbs : Nat) : Int)) = lowP n d := by rw [← Int.tdiv_neg, ← hs]; exact lowP_tdiv
  have e2 : -(d.tdiv ((Nat.gcd n.natAbs d.natAbs : Nat) : Int)) = lowQ n d := by rw [← Int.tdiv_neg, ← hs]; exact lowQ_tdiv
  rw [e1, e2, IntWalk.wrap64_in _ (by omega), IntWalk.wrap64_in _ (by omega)]
  exact ⟨rfl, rfl⟩

theorem low_zero {n : Int} : lowB n 0 = false := by unfold lowB; simp

set_option maxHeartbeats 1000000 in
theorem frMake_zero (n : Int) (w : World) : Calls Tryd.prog 39 #[.int .i64 n, .int .i64 0] w (GivesFB w 0 0 false) := by
  have h := below_alloc1 w (.cells #[.int .i64 0, .int .i64 0] 24)
  go_enter Tryd.func39, Tryd.ntmps39
  go_wp2
  refine bodyPost_ret (v := .tuple #[.agg #[.int .i64 0, .int .i64 0], .bool false]) (by simp [results, Tryd.results39, go_sem]) rfl ⟨rfl, ?_⟩
  first
    | exact h
    | exact (h.setCell (by first | (simp; done) | (simp; omega)) _).setCell (by first | (simp; done) | (simp; omega)) _

theorem frMake_any (n d : Int) (w : World) (hn0 : -4000000000000000000 ≤ n) (hn1 : n ≤ 4000000000000000000) (hd0 : -4000000000000000000 ≤ d) (hd1 : d ≤ 4000000000000000000) :
    Calls Tryd.prog 39 #[.int .i64 n, .int .i64 d] w (GivesFB w (lowRP n d) (lowRQ n d) (lowB n d)) := by
  unfold lowRP lowRQ
  rcases Int.lt_trichotomy d 0 with hd | rfl | hd
  · obtain ⟨e1, e2⟩ := low_neg hd hn0 hn1 hd0
    have hG0 := gcd_pos_right (n := n) (show d ≠ 0 by omega)
    cases hb : lowB n d
    · simpa using lowS_no_neg n d _ _ _ w hn0 hn1 hd hd0 rfl hG0 e1 e2 (lowB_bad (by omega) hb).1
    · simpa using lowS_yes_neg n d _ _ _ w hn0 hn1 hd hd0 rfl hG0 e1 e2 (lowB_good hb).2
  · rw [low_zero]
    simpa using frMake_zero n w
  · obtain ⟨e1, e2⟩ := low_pos (n := n) hd
    have hG0 := gcd_pos_right (n := n) (show d ≠ 0 by omega)
    cases hb : lowB n d
    · simpa using lowS_no_pos n d _ _ _ w hn0 hn1 hd hd1 rfl hG0 e1 e2 (lowB_bad (by omega) hb).1
    · simpa using lowS_yes_pos n d _ _ _ w hn0 hn1 hd hd1 rfl hG0 e1 e2 (lowB_good hb).2
theorem inLowest_any (n d : Int) (w : World) (hL : Lim w) (hn0 : -4000000000000000000 ≤ n) (hn1 : n ≤ 4000000000000000000) (hd0 : -4000000000000000000 ≤ d) (hd1 : d ≤ 4000000000000000000) (hne : d ≠ 0) :
    Calls Tryd.prog 54 #[.int .i64 n, .int .i64 d] w (GivesFB w (lowRP n d) (lowRQ n d) (lowB n d)) := inLowW_any n d w hL ⟨hn0, hn1⟩ ⟨hd0, hd1⟩ hne
end Go.Proofs.YtchglkcfolannabDoor
