/- The program's inLowestTerms and FractionOf (written by wip/gen/ptlow.py). -/
import Derived.Test.YtchglkcfolannabDoorEcLow
import Derived.Test.YtchglkcfolannabDoorFrGood
namespace Go.Proofs.YtchglkcfolannabDoor
open Go.RowKit Go.Joins

set_option maxHeartbeats 1000000 in
theorem inLowW_yes (n d P Q : Int) (w : World) (hL : Lim w) (hn : -4000000000000000000 ≤ n ∧ n ≤ 4000000000000000000) (hd : -4000000000000000000 ≤ d ∧ d ≤ 4000000000000000000) (h0 : d ≠ 0) (hP : lowP n d = P) (hQ : lowQ n d = Q) (p1 : -1000000000 ≤ P) (p2 : P ≤ 1000000000) (q1 : -1000000000 ≤ Q) (q2 : Q ≤ 1000000000) : Calls Tryd.prog 54 #[.int .i64 n, .int .i64 d] w (GivesFB w P Q true) := by
  have c1 := fun W => lowI_any n d W hn hd h0
  rw [hP, hQ] at c1
  replace c1 := Lib.hid c1
  clear hP hQ hn hd h0
  have h := Below.refl w.heap.size w
  have hA := below_alloc1 w (.cells #[.int .i64 0, .int .i64 0] 24)
  have hxr := Box.new w 24 #[.int .i64 0, .int .i64 0]
  replace h := Below.step h hA
  clear hA
  obtain ⟨kr0, kr1⟩ := hxr.two
  have lr := hxr.lt
  replace hL := hL.kept h
  go_enter Tryd.func54, Tryd.ntmps54
  go_wp2_with fail
  refine (c1.out _).mono ?_
  rintro e w1 ⟨rfl, hb⟩
  replace h := Below.step h hb
  replace hxr := hxr.kept hb
  replace hL := hL.kept hb
  clear hb kr0 kr1 lr
  obtain ⟨kr0, kr1⟩ := hxr.two
  have lr := hxr.lt
  go_wp2_with fail
  refine (isWithin0_yes P _ hL.1 p1 p2).mono ?_
  rintro e w2 ⟨rfl, rfl⟩
  go_wp2_with fail
  have fr0 := hxr.free 0
  have fr1 := hxr.free 1
  obtain ⟨sr0, sr1⟩ := ((hxr.set 0 (.int .i64 P)).set 1 (.int .i64 Q)).two
  refine (isWithin0_yes Q _ hL.1 q1 q2).mono ?_
  rintro e w3 ⟨rfl, rfl⟩
  go_wp2_with fail
  refine bodyPost_ret (v := .tuple #[.agg #[.int .i64 P, .int .i64 Q], .bool true]) (by simp [results, Tryd.results54, go_sem, sr0, sr1]) (by rfl) ⟨by rfl, ?_⟩
  exact below_sets2 h (Nat.le_refl _) _ _


set_option maxHeartbeats 1000000 in
theorem inLowW_noP (n d P Q : Int) (w : World) (hL : Lim w) (hn : -4000000000000000000 ≤ n ∧ n ≤ 4000000000000000000) (hd : -4000000000000000000 ≤ d ∧ d ≤ 4000000000000000000) (h0 : d ≠ 0) (hP : lowP n d = P) (hQ : lowQ n d = Q) (g : P < -1000000000 ∨ 1000000000 < P) : Calls Tryd.prog 54 #[.int .i64 n, .int .i64 d] w (GivesFB w 0 0 false) := by
  have c1 := fun W => lowI_any n d W hn hd h0
  rw [hP, hQ] at c1
  replace c1 := Lib.hid c1
  clear hP hQ hn hd h0
  replace g := Lib.hid g
  have h := Below.refl w.heap.size w
  have hA := below_alloc1 w (.cells #[.int .i64 0, .int .i64 0] 24)
  have hxr := Box.new w 24 #[.int .i64 0, .int .i64 0]
  replace h := Below.step h hA
  clear hA
  obtain ⟨kr0, kr1⟩ := hxr.two
  have lr := hxr.lt
  replace hL := hL.kept h
  go_enter Tryd.func54, Tryd.ntmps54
  go_wp2_with fail
  refine (c1.out _).mono ?_
  rintro e w1 ⟨rfl, hb⟩
  replace h := Below.step h hb
  replace hxr := hxr.kept hb
  replace hL := hL.kept hb
  clear hb kr0 kr1 lr
  obtain ⟨kr0, kr1⟩ := hxr.two
  have lr := hxr.lt
  go_wp2_with fail
  have fr0 := hxr.free 0
  have fr1 := hxr.free 1
  obtain ⟨sr0, sr1⟩ := ((hxr.set 0 (.int .i64 0)).set 1 (.int .i64 0)).two
  refine (isWithin0_no P _ hL.1 g.out).mono ?_
  rintro e w2 ⟨rfl, rfl⟩
  go_wp2_with fail
  refine bodyPost_ret (v := .tuple #[.agg #[.int .i64 0, .int .i64 0], .bool false]) (by simp [results, Tryd.results54, go_sem, sr0, sr1]) (by rfl) ⟨by rfl, ?_⟩
  exact below_sets2 h (Nat.le_refl _) _ _


set_option maxHeartbeats 1000000 in
theorem inLowW_noQ (n d P Q : Int) (w : World) (hL : Lim w) (hn : -4000000000000000000 ≤ n ∧ n ≤ 4000000000000000000) (hd : -4000000000000000000 ≤ d ∧ d ≤ 4000000000000000000) (h0 : d ≠ 0) (hP : lowP n d = P) (hQ : lowQ n d = Q) (p1 : -1000000000 ≤ P) (p2 : P ≤ 1000000000) (g : Q < -1000000000 ∨ 1000000000 < Q) : Calls Tryd.prog 54 #[.int .i64 n, .int .i64 d] w (GivesFB w 0 0 false) := by
  have c1 := fun W => lowI_any n d W hn hd h0
  rw [hP, hQ] at c1
  replace c1 := Lib.hid c1
  clear hP hQ hn hd h0
  replace g := Lib.hid g
  have h := Below.refl w.heap.size w
  have hA := below_alloc1 w (.cells #[.int .i64 0, .int .i64 0] 24)
  have hxr := Box.new w 24 #[.int .i64 0, .int .i64 0]
  replace h := Below.step h hA
  clear hA
  obtain ⟨kr0, kr1⟩ := hxr.two
  have lr := hxr.lt
  replace hL := hL.kept h
  go_enter Tryd.func54, Tryd.ntmps54
  go_wp2_with fail
  refine (c1.out _).mono ?_
  rintro e w1 ⟨rfl, hb⟩
  replace h := Below.step h hb
  replace hxr := hxr.kept hb
  replace hL := hL.kept hb
  clear hb kr0 kr1 lr
  obtain ⟨kr0, kr1⟩ := hxr.two
  have lr := hxr.lt
  go_wp2_with fail
  refine (isWithin0_yes P _ hL.1 p1 p2).mono ?_
  rintro e w2 ⟨rfl, rfl⟩
  go_wp2_with fail
  have fr0 := hxr.free 0
  have fr1 := hxr.free 1
  obtain ⟨sr0, sr1⟩ := ((hxr.set 0 (.int .i64 0)).set 1 (.int .i64 0)).two
  refine (isWithin0_no Q _ hL.1 g.out).mono ?_
  rintro e w3 ⟨rfl, rfl⟩
  go_wp2_with fail
  refine bodyPost_ret (v := .tuple #[.agg #[.int .i64 0, .int .i64 0], .bool false]) (by simp [results, Tryd.results54, go_sem, sr0, sr1]) (by rfl) ⟨by rfl, ?_⟩
  exact below_sets2 h (Nat.le_refl _) _ _


theorem inLowW_any (n d : Int) (w : World) (hL : Lim w) (hn : -4000000000000000000 ≤ n ∧ n ≤ 4000000000000000000) (hd : -4000000000000000000 ≤ d ∧ d ≤ 4000000000000000000) (h0 : d ≠ 0) : Calls Tryd.prog 54 #[.int .i64 n, .int .i64 d] w (GivesFB w (lowRP n d) (lowRQ n d) (lowB n d)) := by
  unfold lowRP lowRQ
  cases hb : lowB n d
  · have h2 := (lowB_bad h0 hb).2
    have hq := lowQ_pos (n := n) h0
    by_cases hp : lowP n d < -1000000000 ∨ 1000000000 < lowP n d
    · simpa using inLowW_noP n d _ _ w hL hn hd h0 rfl rfl hp
    · simpa using inLowW_noQ n d _ _ w hL hn hd h0 rfl rfl (by omega) (by omega) (by omega)
  · have h2 := (lowB_good hb).2
    simpa using inLowW_yes n d _ _ w hL hn hd h0 rfl rfl h2.2.2.1 h2.2.2.2.1 (by have := h2.1; omega) h2.2.1

end Go.Proofs.YtchglkcfolannabDoor
