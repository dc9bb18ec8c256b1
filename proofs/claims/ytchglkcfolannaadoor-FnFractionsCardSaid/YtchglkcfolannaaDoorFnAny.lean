/- FnFractions: what the calls hand back, for all fractions; the law. -/
import Derived.Test.YtchglkcfolannaaDoorFnLaw
import Derived.Test.YtchglkcfolannaaDoorFnHalf
import Derived.Test.YtchglkcfolannaaDoorFnDiff
import Derived.Test.YtchglkcfolannaaDoorFrUniq
namespace Go.Proofs.YtchglkcfolannaaDoor
open Go.RowKit Go.Joins

theorem lowR_of {n d p q : Int} (h : lowP n d = p ∧ lowQ n d = q ∧ lowB n d = true) : lowRP n d = p ∧ lowRQ n d = q ∧ lowB n d = true := by
  unfold lowRP lowRQ
  rw [if_pos h.2.2, if_pos h.2.2]
  exact h
theorem lowR_yes {n d : Int} (h : lowB n d = true) : lowRP n d = lowP n d ∧ lowRQ n d = lowQ n d := by
  unfold lowRP lowRQ
  rw [if_pos h, if_pos h]
  exact ⟨rfl, rfl⟩

theorem ops_yes (p0 q0 p1 q1 : Int) (g0 : FrG p0 q0) (g1 : FrG p1 q1) :
    ∃ sp sq ok dp dq one pp pq three qp qq five l seven, OpsOk p0 q0 p1 q1 sp sq ok dp dq one pp pq three qp qq five l seven := by
  have hless : ∃ l, (∀ W, Lim W → Calls Tryd.prog 13 #[.agg #[.int .i64 p0, .int .i64 q0], .agg #[.int .i64 p1, .int .i64 q1]] W (GivesBB W l true)) ∧
      (∀ W, Calls Tryd.prog 14 #[.agg #[.int .i64 p0, .int .i64 q0], .agg #[.int .i64 p1, .int .i64 q1]] W (GivesBB W l true)) ∧ (l = true ↔ p0 * q1 < p1 * q0) := by
    by_cases hlt : p0 * q1 < p1 * q0
    · exact ⟨true, fun W hL => isLessI_lt p0 q0 p1 q1 W hL g0 g1 hlt, fun W => isLessS_lt p0 q0 p1 q1 W g0 g1 hlt, fun _ => hlt, fun _ => rfl⟩
    · exact ⟨false, fun W hL => isLessI_ge p0 q0 p1 q1 W hL g0 g1 hlt, fun W => isLessS_ge p0 q0 p1 q1 W g0 g1 hlt, fun h => (by cases h), fun h => absurd h hlt⟩
  have hquot : ∃ qp qq five, (∀ W, Lim W → Calls Tryd.prog 11 #[.agg #[.int .i64 p0, .int .i64 q0], .agg #[.int .i64 p1, .int .i64 q1]] W (GivesFB W qp qq five)) ∧
      (∀ W, Calls Tryd.prog 12 #[.agg #[.int .i64 p0, .int .i64 q0], .agg #[.int .i64 p1, .int .i64 q1]] W (GivesFB W qp qq five)) ∧
      (five = true → ∀ W, Lim W → Calls Tryd.prog 9 #[.agg #[.int .i64 qp, .int .i64 qq], .agg #[.int .i64 p1, .int .i64 q1]] W (GivesFB W p0 q0 true)) := by
    by_cases hz : p1 = 0
    · subst hz
      exact ⟨0, 0, false, fun W hL => quotientI_zero p0 q0 q1 W hL g0 g1, fun W => quotientS_zero p0 q0 q1 W g0 g1, fun h => (by cases h)⟩
    · refine ⟨_, _, _, fun W hL => quotientI_yes p0 q0 p1 q1 W hL g0 g1 hz, fun W => quotientS_yes p0 q0 p1 q1 W g0 g1 hz, fun h W hL => ?_⟩
      have hb := lowR_of (quot_back g0 g1 h)
      have hg := (lowB_good h).2
      obtain ⟨e1, e2⟩ := lowR_yes h
      rw [e1, e2]
      have c := productI_yes _ _ p1 q1 W hL hg g1
      rw [hb.1, hb.2.1, hb.2.2] at c
      exact c
  obtain ⟨l, l1, l2, l3⟩ := hless
  obtain ⟨qp, qq, five, k1, k2, k3⟩ := hquot
  refine ⟨_, _, _, _, _, _, _, _, _, qp, qq, five, l, true, fun W hL => sumI_yes p0 q0 p1 q1 W hL g0 g1, fun W => sumS_yes p0 q0 p1 q1 W g0 g1, fun W hL => differenceI_yes p0 q0 p1 q1 W hL g0 g1, fun W => differenceS_yes p0 q0 p1 q1 W g0 g1,
    fun W hL => productI_yes p0 q0 p1 q1 W hL g0 g1, fun W => productS_yes p0 q0 p1 q1 W g0 g1, k1, k2, l1, l2, fun h W hL => ?_, fun h W hL => ?_, fun h W hL => ?_, k3, fun _ h => ?_⟩
  · have hb := lowR_of (sum_back g0 g1 h)
    have hg := (lowB_good h).2
    obtain ⟨e1, e2⟩ := lowR_yes h
    rw [e1, e2]
    have c := differenceI_yes _ _ p1 q1 W hL hg g1
    rw [hb.1, hb.2.1, hb.2.2] at c
    exact c
  · have c := sumI_yes p1 q1 p0 q0 W hL g1 g0
    rw [show p1 * q0 + p0 * q1 = p0 * q1 + p1 * q0 from Int.add_comm _ _, Int.mul_comm q1 q0, h] at c
    exact c
  · have hg := (lowB_good h).2
    obtain ⟨e1, e2⟩ := lowR_yes h
    rw [e1, e2]
    exact isFractionI_yes _ _ W hL hg
  · obtain ⟨e1, e2⟩ := lowR_yes h
    rw [e1]
    have hd : 0 < q0 * q1 := Int.mul_pos (by have := g0.1; omega) (by have := g1.1; omega)
    have hs := diff_sign (n := p0 * q1 - p1 * q0) hd
    by_cases hl : l = true
    · rw [hl]
      have := l3.1 hl
      exact (decide_eq_true (hs.2 (by omega))).symm
    · have hl2 : l = false := by cases l <;> simp_all
      rw [hl2]
      have : ¬ p0 * q1 < p1 * q0 := fun h => hl (l3.2 h)
      exact (decide_eq_false (fun h2 => this (by have := hs.1 h2; omega))).symm

theorem ops_no (p0 q0 p1 q1 : Int) (hp1 : -9223372036854775808 ≤ p1 ∧ p1 ≤ 9223372036854775807) (g : ¬ (FrG p0 q0 ∧ FrG p1 q1)) :
    ∃ sp sq ok dp dq one pp pq three qp qq five l seven, OpsOk p0 q0 p1 q1 sp sq ok dp dq one pp pq three qp qq five l seven := by
  refine ⟨0, 0, false, 0, 0, false, 0, 0, false, 0, 0, false, false, false, fun W hL => sumI_no p0 q0 p1 q1 W hL g, fun W => sumS_no p0 q0 p1 q1 W g, fun W hL => ?_, fun W => differenceS_no p0 q0 p1 q1 W g,
    fun W hL => productI_no p0 q0 p1 q1 W hL g, fun W => productS_no p0 q0 p1 q1 W g, fun W hL => quotientI_no p0 q0 p1 q1 W hL g, fun W => quotientS_no p0 q0 p1 q1 W g, fun W hL => isLessI_no p0 q0 p1 q1 W hL g, fun W => isLessS_no p0 q0 p1 q1 W g,
    fun h => (by cases h), fun h => (by cases h), fun h => (by cases h), fun h => (by cases h), fun h => (by cases h)⟩
  by_cases hm : p1 = -9223372036854775808
  · exact differenceI_no2 p0 q0 p1 q1 W hL hm
  · exact differenceI_no1 p0 q0 p1 q1 W hL (by omega) hp1.2 g

theorem ops_any (p0 q0 p1 q1 : Int) (_ : -9223372036854775808 ≤ p0 ∧ p0 ≤ 9223372036854775807) (_ : -9223372036854775808 ≤ q0 ∧ q0 ≤ 9223372036854775807) (hp1 : -9223372036854775808 ≤ p1 ∧ p1 ≤ 9223372036854775807) (_ : -9223372036854775808 ≤ q1 ∧ q1 ≤ 9223372036854775807) :
    ∃ sp sq ok dp dq one pp pq three qp qq five l seven, OpsOk p0 q0 p1 q1 sp sq ok dp dq one pp pq three qp qq five l seven := by
  by_cases g : FrG p0 q0 ∧ FrG p1 q1
  · exact ops_yes p0 q0 p1 q1 g.1 g.2
  · exact ops_no p0 q0 p1 q1 hp1 g

theorem frac_any (z0 z1 : Int) (_ : -9223372036854775808 ≤ z0 ∧ z0 ≤ 9223372036854775807) (_ : -9223372036854775808 ≤ z1 ∧ z1 ≤ 9223372036854775807) : ∃ fp fq nine G aP aN aD, FracOk z0 z1 fp fq nine G aP aN aD := by
  have no : ∀ (_ : ∀ W, Lim W → Calls Tryd.prog 16 #[.int .i64 z0, .int .i64 z1] W (GivesFB W 0 0 false)) (_ : ∀ W, Calls Tryd.prog 17 #[.int .i64 z0, .int .i64 z1] W (GivesFB W 0 0 false)),
      ∃ fp fq nine G aP aN aD, FracOk z0 z1 fp fq nine G aP aN aD := fun h1 h2 =>
    ⟨0, 0, false, 0, 0, 0, 0, h1, h2, fun h => (by cases h), fun h => (by cases h), fun h => (by cases h), fun h => (by cases h), fun h => (by cases h), fun h => (by cases h), fun h => (by cases h), fun h => (by cases h), fun h => (by cases h)⟩
  by_cases h0 : -1000000000000000000 ≤ z0 ∧ z0 ≤ 1000000000000000000
  · by_cases h1 : -1000000000000000000 ≤ z1 ∧ z1 ≤ 1000000000000000000
    · by_cases hz : z1 = 0
      · subst hz
        exact no (fun W hL => fractionOfI_zero z0 W hL h0.1 h0.2) (fun W => fractionOfS_zero z0 W h0.1 h0.2)
      · obtain ⟨h0a, h0b⟩ := h0
        obtain ⟨h1a, h1b⟩ := h1
        refine ⟨_, _, _, Nat.gcd z0.natAbs z1.natAbs, (lowRP z0 z1).natAbs, z0.natAbs, z1.natAbs, fun W hL => fractionOfI_yes z0 z1 W hL h0a h0b h1a h1b hz, fun W => fractionOfS_yes z0 z1 W h0a h0b h1a h1b hz,
          fun h W hL => ?_, fun _ W => qGcd_any z0 z1 W (by omega) (by omega) (by omega) (by omega) hz _ rfl, fun h W => ?_, fun _ W => qAbs_any z0 W (by omega) (by omega) _ rfl, fun _ W => qAbs_any z1 W (by omega) (by omega) _ rfl, fun h => ?_, fun h => ?_, fun _ => by omega, fun _ => by omega⟩
        · obtain ⟨e1, e2⟩ := lowR_yes h
          rw [e1, e2]
          exact isFractionI_yes _ _ W hL (lowB_good h).2
        · obtain ⟨e1, e2⟩ := lowR_yes h
          have hg := (lowB_good h).2
          rw [← e1] at hg
          exact qAbs_any _ W (by have := hg.2.2.1; omega) (by have := hg.2.2.2.1; omega) _ rfl
        · obtain ⟨e1, e2⟩ := lowR_yes h
          rw [e1]
          exact low_abs_p
        · obtain ⟨e1, e2⟩ := lowR_yes h
          rw [e2]
          have hq := lowQ_pos (n := z0) hz
          have := low_abs_q (n := z0) (d := z1)
          rwa [show ((lowQ z0 z1).natAbs : Int) = lowQ z0 z1 from by omega] at this
    · exact no (fun W hL => fractionOfI_no1 z0 z1 W hL h0.1 h0.2 (by omega)) (fun W => fractionOfS_no1 z0 z1 W h0.1 h0.2 (by omega))
  · exact no (fun W hL => fractionOfI_no0 z0 z1 W hL (by omega)) (fun W => fractionOfS_no0 z0 z1 W (by omega))

set_option maxHeartbeats 1000000 in
set_option maxRecDepth 100000 in
theorem fnFractions_big (A A' : Option Addr) (n c n' c' : Nat) (w : World) (hs : (1048576 : Int) < wrap64 ((n : Int) + n')) :
    Calls Tryd.prog 3 #[.slice A n c, .slice A' n' c'] w fun e w' => e = .returned (.bool true) ∧ Below w.heap.size w w' := by
  obtain ⟨s, hsw⟩ : ∃ s, s = wrap64 ((n : Int) + n') := ⟨_, rfl⟩
  rw [← hsw] at hs
  have hsw' : wrap64 ((n : Int) + n') = s := hsw.symm
  clear hsw
  go_enter Tryd.func3, Tryd.ntmps3
  go_wp2_with fail
  go_ret
  exact ⟨rfl, Below.refl _ _⟩

theorem lawFnFractions_any (A : Option Addr) (n c : Nat) (A' : Option Addr) (n' c' : Nat) (w : World) (hL : Lim w) (hn : n ≤ 9223372036854775807) (hr : RdB w w.heap.size A n) (hn' : n' ≤ 9223372036854775807) (hr' : RdB w w.heap.size A' n') :
    Calls Tryd.prog 3 #[.slice A n c, .slice A' n' c'] w fun e w' => e = .returned (.bool true) ∧ Below w.heap.size w w' := by
  by_cases hs : (1048576 : Int) < wrap64 ((n : Int) + n')
  · exact fnFractions_big A A' n c n' c' w hs
  · exact fnFractions_walk A A' n c n' c' w hL hn hn' hr hr' hs ops_any frac_any
end Go.Proofs.YtchglkcfolannaaDoor
