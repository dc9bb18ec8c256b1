/- AddPoints of the model and of the program (written by wip/gen/ptadd.py). -/
import Derived.Test.YtabcnkobojkdhaaDoorPtLine
import Derived.Test.YtabcnkobojkdhaaDoorPtB
import Derived.Test.YtabcnkobojkdhaaDoorPtSl
import Derived.Deep.RegionHeld3
import Derived.Deep.DeepCutAuto
import Derived.BigQuiet
namespace Go.Proofs.YtabcnkobojkdhaaDoor
open Go.RowKit Go.Joins

/-- The sum over a slope: as the model's conditions say. -/
noncomputable def lineP (n d : Int) (p q : P3) : Option P3 := if Good n d p q then some (third n d p q) else none
theorem line_any {a b n d : Int} {p q : P3} (w : World) (hL : Lim w) (hc : (-1000 ≤ a ∧ a ≤ 1000) ∧ (-10000 ≤ b ∧ b ≤ 10000)) (gp : Fin3 a b p) (gq : Fin3 a b q) (hF : slF p q ≠ 0) (hs : n * slF p q = slU a p q * d) (hd : 0 < d) (hn : -4000000000000 ≤ n ∧ n ≤ 4000000000000) :
    Calls Tryd.prog 36 #[.agg #[.int .i64 p.x, .int .i64 p.y, .int .i64 p.e], .agg #[.int .i64 q.x, .int .i64 q.y, .int .i64 q.e], .agg #[.int .i64 n, .int .i64 d]] w (GivesO w (lineP n d p q)) := by
  have fp := And.intro gp.x gp.e
  have fq := And.intro gq.x gq.e
  have far := far_x (n := n) fp fq hd
  unfold lineP
  by_cases g1 : 1392000 < (n.natAbs : Int)
  · rw [if_neg fun g => by have := far (by have := g.gd; omega); have := g.gx; omega]
    exact line_noN p q n d w hL hn g1
  by_cases g2 : 8000 < d
  · rw [if_neg fun g => by have := g.gd; omega]
    exact line_noD p q n d w hL (by omega) g2
  have tb := t_bd (n := n) (d := d) fp fq ⟨by omega, by omega⟩ ⟨by omega, by omega⟩
  have hD := tD_pos hd gp.e.1 gq.e.1
  have hq1 := lowQ_pos (n := tN n d p q) (d := tD d p q) (by omega)
  have hq2 := lowQ_le (n := tN n d p q) (d := tD d p q)
  have htd : tD d p q ≤ 10240000000000 := tb.2.2.2.2.2.2.2.2.2.2.2.2
  have htn : -4000000000000000000 ≤ tN n d p q ∧ tN n d p q ≤ 4000000000000000000 := by unfold tN; omega
  have hb0 : lowB (tN n d p q) (tD d p q) = true → lowRP (tN n d p q) (tD d p q) = lowP (tN n d p q) (tD d p q) ∧ lowRQ (tN n d p q) (tD d p q) = lowQ (tN n d p q) (tD d p q) := by
    intro hb; unfold lowRP lowRQ; rw [hb]; exact ⟨rfl, rfl⟩
  have hb1 : lowB (tN n d p q) (tD d p q) = false → lowRP (tN n d p q) (tD d p q) = 0 ∧ lowRQ (tN n d p q) (tD d p q) = 0 := by
    intro hb; unfold lowRP lowRQ; rw [hb]; exact ⟨rfl, rfl⟩
  have c2 : ∀ W : World, Lim W → Calls Tryd.prog 53 #[.int .i64 (n * n * (p.e * p.e) * (q.e * q.e) - d * d * (p.x * (q.e * q.e) + q.x * (p.e * p.e))), .int .i64 (d * d * (p.e * p.e) * (q.e * q.e))] W (GivesFB W (lowRP (tN n d p q) (tD d p q)) (lowRQ (tN n d p q) (tD d p q)) (lowB (tN n d p q) (tD d p q))) := by
    intro W hL
    rw [show n * n * (p.e * p.e) * (q.e * q.e) - d * d * (p.x * (q.e * q.e) + q.x * (p.e * p.e)) = tN n d p q from by unfold tN; grind]
    exact inLowW_any (tN n d p q) (tD d p q) W hL htn (by omega) (by omega)
  cases hb : lowB (tN n d p q) (tD d p q)
  · rw [if_neg fun g => by
      have h2 := (lowB_bad (n := tN n d p q) (d := tD d p q) (by omega) hb).2
      have k1 := g.gx
      have k2 := g.gr
      have h3 := iroot_bd (n := lowQ (tN n d p q) (tD d p q)) (by omega)
      have k4 := mul_bd1 h3 g.ge h3 g.ge
      rw [k2] at k4
      omega]
    obtain ⟨e1, e2⟩ := hb1 hb
    rw [e1, e2, hb] at c2
    exact line_no1 p q n d w hL (by omega) (by omega) (by omega) (by omega) fp fq 0 0 0 0 false false c2 (fun W => placeAt_pl 0 0 0 W (.of_root (n := 0) ⟨by omega, by omega⟩ (by omega)) rfl (fun k => absurd k.2.1.1 (by decide))) rfl
  · obtain ⟨e1, e2⟩ := hb0 hb
    rw [e1, e2, hb] at c2
    have hrt := rootOf_spec (lowQ (tN n d p q) (tD d p q)).toNat
    have hir : IRt (rootOf (lowQ (tN n d p q) (tD d p q)).toNat) (lowQ (tN n d p q) (tD d p q)) := by
      have := IRt.of_root hrt (by omega)
      rwa [show (((lowQ (tN n d p q) (tD d p q)).toNat : Nat) : Int) = lowQ (tN n d p q) (tD d p q) from by omega] at this
    by_cases g : Good n d p q
    · rw [if_pos g]
      obtain ⟨hY1, hY2⟩ := third_on hc gp gq hF hs hd g
      have hpl : Plc (lowP (tN n d p q) (tD d p q)) (iroot (lowQ (tN n d p q) (tD d p q))) := ⟨hY1.x, hY1.e, hY1.c⟩
      have hx := hY1.x
      have he := hY1.e
      have e3 : iroot (lowQ (tN n d p q) (tD d p q)) = (third n d p q).e := rfl
      have e4 : lowP (tN n d p q) (tD d p q) = (third n d p q).x := rfl
      refine line_yes p q n d w hL (by omega) (by omega) (by omega) (by omega) fp fq _ _ _ _ true true c2 (fun W => placeAt_yes _ _ _ W hir g.gr hpl) rfl rfl hx.1 hx.2 he.1 he.2 gp.y _ ?_
      show ((n * p.e * (p.x * (third n d p q).e * (third n d p q).e - (third n d p q).x * (p.e * p.e)) - p.y * d * (third n d p q).e * (third n d p q).e) * (third n d p q).e).tdiv (d * (p.e * p.e) * p.e) = (third n d p q).y
      rw [show n * p.e * (p.x * (third n d p q).e * (third n d p q).e - (third n d p q).x * (p.e * p.e)) - p.y * d * (third n d p q).e * (third n d p q).e = tF n d p (third n d p q).x (third n d p q).e from by unfold tF; rw [Int.mul_assoc p.x, Int.mul_assoc (p.y * d)]]
      rfl
    · rw [if_neg g]
      by_cases hsq : ((rootOf (lowQ (tN n d p q) (tD d p q)).toNat : Nat) : Int) * (rootOf (lowQ (tN n d p q) (tD d p q)).toNat : Nat) = lowQ (tN n d p q) (tD d p q)
      · by_cases hp : Plc (lowP (tN n d p q) (tD d p q)) (rootOf (lowQ (tN n d p q) (tD d p q)).toNat : Nat)
        · exact absurd ⟨by omega, by
            by_cases k : n < -(174 * d) ∨ 174 * d < n
            · have := far k; have := hp.1; omega
            · omega, hsq, hp.2.1.2, hp.1⟩ g
        · exact line_no2 p q n d w hL (by omega) (by omega) (by omega) (by omega) fp fq _ _ 0 0 true false c2 (fun W => placeAt_pl _ _ _ W hir hsq hp) rfl rfl
      · exact line_no2 p q n d w hL (by omega) (by omega) (by omega) (by omega) fp fq _ _ 0 0 true false c2 (fun W => placeAt_sq _ _ _ W hir hsq) rfl rfl

set_option maxHeartbeats 1000000 in
set_option maxRecDepth 100000 in
theorem addI_off0 (a b : Int) (p q : P3) (w : World) (g : ¬ PtG a b p) : Calls Tryd.prog 13 #[.agg #[.int .i64 a, .int .i64 b], .agg #[.int .i64 p.x, .int .i64 p.y, .int .i64 p.e], .agg #[.int .i64 q.x, .int .i64 q.y, .int .i64 q.e]] w (GivesPB w 0 0 0 false) := by
  have h := Below.refl w.heap.size w
  have hA := below_alloc1 w (.cells #[.int .i64 a, .int .i64 b] 29)
  have hxc := Box.new w 29 #[.int .i64 a, .int .i64 b]
  replace h := Below.step h hA
  clear hA
  have hA := below_alloc1 (w.alloc (.cells #[.int .i64 a, .int .i64 b] 29)) (.cells #[.int .i64 p.x, .int .i64 p.y, .int .i64 p.e] 26)
  have hxp := Box.new (w.alloc (.cells #[.int .i64 a, .int .i64 b] 29)) 26 #[.int .i64 p.x, .int .i64 p.y, .int .i64 p.e]
  rw [show (w.alloc (.cells #[.int .i64 a, .int .i64 b] 29)).heap.size = w.heap.size + 1 from by simp] at hxp
  replace h := Below.step h hA
  replace hxc := hxc.kept hA
  clear hA
  have hA := below_alloc1 ((w.alloc (.cells #[.int .i64 a, .int .i64 b] 29)).alloc (.cells #[.int .i64 p.x, .int .i64 p.y, .int .i64 p.e] 26)) (.cells #[.int .i64 q.x, .int .i64 q.y, .int .i64 q.e] 26)
  have hxq := Box.new ((w.alloc (.cells #[.int .i64 a, .int .i64 b] 29)).alloc (.cells #[.int .i64 p.x, .int .i64 p.y, .int .i64 p.e] 26)) 26 #[.int .i64 q.x, .int .i64 q.y, .int .i64 q.e]
  rw [show ((w.alloc (.cells #[.int .i64 a, .int .i64 b] 29)).alloc (.cells #[.int .i64 p.x, .int .i64 p.y, .int .i64 p.e] 26)).heap.size = w.heap.size + 2 from by simp] at hxq
  replace h := Below.step h hA
  replace hxc := hxc.kept hA
  replace hxp := hxp.kept hA
  clear hA
  have hA := below_alloc1 (((w.alloc (.cells #[.int .i64 a, .int .i64 b] 29)).alloc (.cells #[.int .i64 p.x, .int .i64 p.y, .int .i64 p.e] 26)).alloc (.cells #[.int .i64 q.x, .int .i64 q.y, .int .i64 q.e] 26)) (.cells #[.int .i64 0, .int .i64 0, .int .i64 0] 26)
  have hxr := Box.new (((w.alloc (.cells #[.int .i64 a, .int .i64 b] 29)).alloc (.cells #[.int .i64 p.x, .int .i64 p.y, .int .i64 p.e] 26)).alloc (.cells #[.int .i64 q.x, .int .i64 q.y, .int .i64 q.e] 26)) 26 #[.int .i64 0, .int .i64 0, .int .i64 0]
  rw [show (((w.alloc (.cells #[.int .i64 a, .int .i64 b] 29)).alloc (.cells #[.int .i64 p.x, .int .i64 p.y, .int .i64 p.e] 26)).alloc (.cells #[.int .i64 q.x, .int .i64 q.y, .int .i64 q.e] 26)).heap.size = w.heap.size + 3 from by simp] at hxr
  replace h := Below.step h hA
  replace hxc := hxc.kept hA
  replace hxp := hxp.kept hA
  replace hxq := hxq.kept hA
  clear hA
  obtain ⟨kc0, kc1⟩ := hxc.two
  have lc := hxc.lt
  obtain ⟨kp0, kp1, kp2⟩ := hxp.three
  have lp := hxp.lt
  obtain ⟨kq0, kq1, kq2⟩ := hxq.three
  have lq := hxq.lt
  obtain ⟨kr0, kr1, kr2⟩ := hxr.three
  have lr := hxr.lt
  go_enter Tryd.func13, Tryd.ntmps13
  go_wp2_with fail
  refine (isPtI_off a b p _ g).mono ?_
  rintro e w1 ⟨rfl, hb⟩
  replace h := Below.step h hb
  replace hxc := hxc.kept hb
  replace hxp := hxp.kept hb
  replace hxq := hxq.kept hb
  replace hxr := hxr.kept hb
  clear hb kc0 kc1 lc kp0 kp1 kp2 lp kq0 kq1 kq2 lq kr0 kr1 kr2 lr
  obtain ⟨kc0, kc1⟩ := hxc.two
  have lc := hxc.lt
  obtain ⟨kp0, kp1, kp2⟩ := hxp.three
  have lp := hxp.lt
  obtain ⟨kq0, kq1, kq2⟩ := hxq.three
  have lq := hxq.lt
  obtain ⟨kr0, kr1, kr2⟩ := hxr.three
  have lr := hxr.lt
  have fr0 := hxr.free 0
  have fr1 := hxr.free 1
  have fr2 := hxr.free 2
  obtain ⟨sr0, sr1, sr2⟩ := (((hxr.set 0 (.int .i64 0)).set 1 (.int .i64 0)).set 2 (.int .i64 0)).three
  go_wp2_with fail
  refine bodyPost_ret (v := .tuple #[.agg #[.int .i64 0, .int .i64 0, .int .i64 0], .bool false]) (by simp [results, Tryd.results13, go_sem, sr0, sr1, sr2]) (by rfl) ⟨by rfl, ?_⟩
  exact below_sets3 h (by omega) _ _ _


set_option maxHeartbeats 1000000 in
set_option maxRecDepth 100000 in
theorem addI_off1 (a b : Int) (p q : P3) (w : World) (g : PtG a b p) (g' : ¬ PtG a b q) : Calls Tryd.prog 13 #[.agg #[.int .i64 a, .int .i64 b], .agg #[.int .i64 p.x, .int .i64 p.y, .int .i64 p.e], .agg #[.int .i64 q.x, .int .i64 q.y, .int .i64 q.e]] w (GivesPB w 0 0 0 false) := by
  have h := Below.refl w.heap.size w
  have hA := below_alloc1 w (.cells #[.int .i64 a, .int .i64 b] 29)
  have hxc := Box.new w 29 #[.int .i64 a, .int .i64 b]
  replace h := Below.step h hA
  clear hA
  have hA := below_alloc1 (w.alloc (.cells #[.int .i64 a, .int .i64 b] 29)) (.cells #[.int .i64 p.x, .int .i64 p.y, .int .i64 p.e] 26)
  have hxp := Box.new (w.alloc (.cells #[.int .i64 a, .int .i64 b] 29)) 26 #[.int .i64 p.x, .int .i64 p.y, .int .i64 p.e]
  rw [show (w.alloc (.cells #[.int .i64 a, .int .i64 b] 29)).heap.size = w.heap.size + 1 from by simp] at hxp
  replace h := Below.step h hA
  replace hxc := hxc.kept hA
  clear hA
  have hA := below_alloc1 ((w.alloc (.cells #[.int .i64 a, .int .i64 b] 29)).alloc (.cells #[.int .i64 p.x, .int .i64 p.y, .int .i64 p.e] 26)) (.cells #[.int .i64 q.x, .int .i64 q.y, .int .i64 q.e] 26)
  have hxq := Box.new ((w.alloc (.cells #[.int .i64 a, .int .i64 b] 29)).alloc (.cells #[.int .i64 p.x, .int .i64 p.y, .int .i64 p.e] 26)) 26 #[.int .i64 q.x, .int .i64 q.y, .int .i64 q.e]
  rw [show ((w.alloc (.cells #[.int .i64 a, .int .i64 b] 29)).alloc (.cells #[.int .i64 p.x, .int .i64 p.y, .int .i64 p.e] 26)).heap.size = w.heap.size + 2 from by simp] at hxq
  replace h := Below.step h hA
  replace hxc := hxc.kept hA
  replace hxp := hxp.kept hA
  clear hA
  have hA := below_alloc1 (((w.alloc (.cells #[.int .i64 a, .int .i64 b] 29)).alloc (.cells #[.int .i64 p.x, .int .i64 p.y, .int .i64 p.e] 26)).alloc (.cells #[.int .i64 q.x, .int .i64 q.y, .int .i64 q.e] 26)) (.cells #[.int .i64 0, .int .i64 0, .int .i64 0] 26)
  have hxr := Box.new (((w.alloc (.cells #[.int .i64 a, .int .i64 b] 29)).alloc (.cells #[.int .i64 p.x, .int .i64 p.y, .int .i64 p.e] 26)).alloc (.cells #[.int .i64 q.x, .int .i64 q.y, .int .i64 q.e] 26)) 26 #[.int .i64 0, .int .i64 0, .int .i64 0]
  rw [show (((w.alloc (.cells #[.int .i64 a, .int .i64 b] 29)).alloc (.cells #[.int .i64 p.x, .int .i64 p.y, .int .i64 p.e] 26)).alloc (.cells #[.int .i64 q.x, .int .i64 q.y, .int .i64 q.e] 26)).heap.size = w.heap.size + 3 from by simp] at hxr
  replace h := Below.step h hA
  replace hxc := hxc.kept hA
  replace hxp := hxp.kept hA
  replace hxq := hxq.kept hA
  clear hA
  obtain ⟨kc0, kc1⟩ := hxc.two
  have lc := hxc.lt
  obtain ⟨kp0, kp1, kp2⟩ := hxp.three
  have lp := hxp.lt
  obtain ⟨kq0, kq1, kq2⟩ := hxq.three
  have lq := hxq.lt
  obtain ⟨kr0, kr1, kr2⟩ := hxr.three
  have lr := hxr.lt
  go_enter Tryd.func13, Tryd.ntmps13
  go_wp2_with fail
  refine (isPtI_on a b p _ g).mono ?_
  rintro e w1 ⟨rfl, hb⟩
  replace h := Below.step h hb
  replace hxc := hxc.kept hb
  replace hxp := hxp.kept hb
  replace hxq := hxq.kept hb
  replace hxr := hxr.kept hb
  clear hb kc0 kc1 lc kp0 kp1 kp2 lp kq0 kq1 kq2 lq kr0 kr1 kr2 lr
  obtain ⟨kc0, kc1⟩ := hxc.two
  have lc := hxc.lt
  obtain ⟨kp0, kp1, kp2⟩ := hxp.three
  have lp := hxp.lt
  obtain ⟨kq0, kq1, kq2⟩ := hxq.three
  have lq := hxq.lt
  obtain ⟨kr0, kr1, kr2⟩ := hxr.three
  have lr := hxr.lt
  go_wp2_with fail
  refine (isPtI_off a b q _ g').mono ?_
  rintro e w2 ⟨rfl, hb⟩
  replace h := Below.step h hb
  replace hxc := hxc.kept hb
  replace hxp := hxp.kept hb
  replace hxq := hxq.kept hb
  replace hxr := hxr.kept hb
  clear hb kc0 kc1 lc kp0 kp1 kp2 lp kq0 kq1 kq2 lq kr0 kr1 kr2 lr
  obtain ⟨kc0, kc1⟩ := hxc.two
  have lc := hxc.lt
  obtain ⟨kp0, kp1, kp2⟩ := hxp.three
  have lp := hxp.lt
  obtain ⟨kq0, kq1, kq2⟩ := hxq.three
  have lq := hxq.lt
  obtain ⟨kr0, kr1, kr2⟩ := hxr.three
  have lr := hxr.lt
  have fr0 := hxr.free 0
  have fr1 := hxr.free 1
  have fr2 := hxr.free 2
  obtain ⟨sr0, sr1, sr2⟩ := (((hxr.set 0 (.int .i64 0)).set 1 (.int .i64 0)).set 2 (.int .i64 0)).three
  go_wp2_with fail
  refine bodyPost_ret (v := .tuple #[.agg #[.int .i64 0, .int .i64 0, .int .i64 0], .bool false]) (by simp [results, Tryd.results13, go_sem, sr0, sr1, sr2]) (by rfl) ⟨by rfl, ?_⟩
  exact below_sets3 h (by omega) _ _ _


set_option maxHeartbeats 1000000 in
set_option maxRecDepth 100000 in
theorem addS_off0 (a b : Int) (p q : P3) (w : World) (g : ¬ PtG a b p) : Calls Tryd.prog 10 #[.agg #[.int .i64 a, .int .i64 b], .agg #[.int .i64 p.x, .int .i64 p.y, .int .i64 p.e], .agg #[.int .i64 q.x, .int .i64 q.y, .int .i64 q.e]] w (GivesPB w 0 0 0 false) := by
  have h := Below.refl w.heap.size w
  have hA := below_alloc1 w (.cells #[.int .i64 a, .int .i64 b] 29)
  have hxc := Box.new w 29 #[.int .i64 a, .int .i64 b]
  replace h := Below.step h hA
  clear hA
  have hA := below_alloc1 (w.alloc (.cells #[.int .i64 a, .int .i64 b] 29)) (.cells #[.int .i64 p.x, .int .i64 p.y, .int .i64 p.e] 26)
  have hxp := Box.new (w.alloc (.cells #[.int .i64 a, .int .i64 b] 29)) 26 #[.int .i64 p.x, .int .i64 p.y, .int .i64 p.e]
  rw [show (w.alloc (.cells #[.int .i64 a, .int .i64 b] 29)).heap.size = w.heap.size + 1 from by simp] at hxp
  replace h := Below.step h hA
  replace hxc := hxc.kept hA
  clear hA
  have hA := below_alloc1 ((w.alloc (.cells #[.int .i64 a, .int .i64 b] 29)).alloc (.cells #[.int .i64 p.x, .int .i64 p.y, .int .i64 p.e] 26)) (.cells #[.int .i64 q.x, .int .i64 q.y, .int .i64 q.e] 26)
  have hxq := Box.new ((w.alloc (.cells #[.int .i64 a, .int .i64 b] 29)).alloc (.cells #[.int .i64 p.x, .int .i64 p.y, .int .i64 p.e] 26)) 26 #[.int .i64 q.x, .int .i64 q.y, .int .i64 q.e]
  rw [show ((w.alloc (.cells #[.int .i64 a, .int .i64 b] 29)).alloc (.cells #[.int .i64 p.x, .int .i64 p.y, .int .i64 p.e] 26)).heap.size = w.heap.size + 2 from by simp] at hxq
  replace h := Below.step h hA
  replace hxc := hxc.kept hA
  replace hxp := hxp.kept hA
  clear hA
  have hA := below_alloc1 (((w.alloc (.cells #[.int .i64 a, .int .i64 b] 29)).alloc (.cells #[.int .i64 p.x, .int .i64 p.y, .int .i64 p.e] 26)).alloc (.cells #[.int .i64 q.x, .int .i64 q.y, .int .i64 q.e] 26)) (.cells #[.int .i64 0, .int .i64 0, .int .i64 0] 26)
  have hxr := Box.new (((w.alloc (.cells #[.int .i64 a, .int .i64 b] 29)).alloc (.cells #[.int .i64 p.x, .int .i64 p.y, .int .i64 p.e] 26)).alloc (.cells #[.int .i64 q.x, .int .i64 q.y, .int .i64 q.e] 26)) 26 #[.int .i64 0, .int .i64 0, .int .i64 0]
  rw [show (((w.alloc (.cells #[.int .i64 a, .int .i64 b] 29)).alloc (.cells #[.int .i64 p.x, .int .i64 p.y, .int .i64 p.e] 26)).alloc (.cells #[.int .i64 q.x, .int .i64 q.y, .int .i64 q.e] 26)).heap.size = w.heap.size + 3 from by simp] at hxr
  replace h := Below.step h hA
  replace hxc := hxc.kept hA
  replace hxp := hxp.kept hA
  replace hxq := hxq.kept hA
  clear hA
  obtain ⟨kc0, kc1⟩ := hxc.two
  have lc := hxc.lt
  obtain ⟨kp0, kp1, kp2⟩ := hxp.three
  have lp := hxp.lt
  obtain ⟨kq0, kq1, kq2⟩ := hxq.three
  have lq := hxq.lt
  obtain ⟨kr0, kr1, kr2⟩ := hxr.three
  have lr := hxr.lt
  go_enter Tryd.func10, Tryd.ntmps10
  go_wp2_with fail
  refine (isPtS_off a b p _ g).mono ?_
  rintro e w1 ⟨rfl, hb⟩
  replace h := Below.step h hb
  replace hxc := hxc.kept hb
  replace hxp := hxp.kept hb
  replace hxq := hxq.kept hb
  replace hxr := hxr.kept hb
  clear hb kc0 kc1 lc kp0 kp1 kp2 lp kq0 kq1 kq2 lq kr0 kr1 kr2 lr
  obtain ⟨kc0, kc1⟩ := hxc.two
  have lc := hxc.lt
  obtain ⟨kp0, kp1, kp2⟩ := hxp.three
  have lp := hxp.lt
  obtain ⟨kq0, kq1, kq2⟩ := hxq.three
  have lq := hxq.lt
  obtain ⟨kr0, kr1, kr2⟩ := hxr.three
  have lr := hxr.lt
  have fr0 := hxr.free 0
  have fr1 := hxr.free 1
  have fr2 := hxr.free 2
  obtain ⟨sr0, sr1, sr2⟩ := (((hxr.set 0 (.int .i64 0)).set 1 (.int .i64 0)).set 2 (.int .i64 0)).three
  go_wp2_with fail
  refine bodyPost_ret (v := .tuple #[.agg #[.int .i64 0, .int .i64 0, .int .i64 0], .bool false]) (by simp [results, Tryd.results10, go_sem, sr0, sr1, sr2]) (by rfl) ⟨by rfl, ?_⟩
  exact below_sets3 h (by omega) _ _ _


set_option maxHeartbeats 1000000 in
set_option maxRecDepth 100000 in
theorem addS_off1 (a b : Int) (p q : P3) (w : World) (g : PtG a b p) (g' : ¬ PtG a b q) : Calls Tryd.prog 10 #[.agg #[.int .i64 a, .int .i64 b], .agg #[.int .i64 p.x, .int .i64 p.y, .int .i64 p.e], .agg #[.int .i64 q.x, .int .i64 q.y, .int .i64 q.e]] w (GivesPB w 0 0 0 false) := by
  have h := Below.refl w.heap.size w
  have hA := below_alloc1 w (.cells #[.int .i64 a, .int .i64 b] 29)
  have hxc := Box.new w 29 #[.int .i64 a, .int .i64 b]
  replace h := Below.step h hA
  clear hA
  have hA := below_alloc1 (w.alloc (.cells #[.int .i64 a, .int .i64 b] 29)) (.cells #[.int .i64 p.x, .int .i64 p.y, .int .i64 p.e] 26)
  have hxp := Box.new (w.alloc (.cells #[.int .i64 a, .int .i64 b] 29)) 26 #[.int .i64 p.x, .int .i64 p.y, .int .i64 p.e]
  rw [show (w.alloc (.cells #[.int .i64 a, .int .i64 b] 29)).heap.size = w.heap.size + 1 from by simp] at hxp
  replace h := Below.step h hA
  replace hxc := hxc.kept hA
  clear hA
  have hA := below_alloc1 ((w.alloc (.cells #[.int .i64 a, .int .i64 b] 29)).alloc (.cells #[.int .i64 p.x, .int .i64 p.y, .int .i64 p.e] 26)) (.cells #[.int .i64 q.x, .int .i64 q.y, .int .i64 q.e] 26)
  have hxq := Box.new ((w.alloc (.cells #[.int .i64 a, .int .i64 b] 29)).alloc (.cells #[.int .i64 p.x, .int .i64 p.y, .int .i64 p.e] 26)) 26 #[.int .i64 q.x, .int .i64 q.y, .int .i64 q.e]
  rw [show ((w.alloc (.cells #[.int .i64 a, .int .i64 b] 29)).alloc (.cells #[.int .i64 p.x, .int .i64 p.y, .int .i64 p.e] 26)).heap.size = w.heap.size + 2 from by simp] at hxq
  replace h := Below.step h hA
  replace hxc := hxc.kept hA
  replace hxp := hxp.kept hA
  clear hA
  have hA := below_alloc1 (((w.alloc (.cells #[.int .i64 a, .int .i64 b] 29)).alloc (.cells #[.int .i64 p.x, .int .i64 p.y, .int .i64 p.e] 26)).alloc (.cells #[.int .i64 q.x, .int .i64 q.y, .int .i64 q.e] 26)) (.cells #[.int .i64 0, .int .i64 0, .int .i64 0] 26)
  have hxr := Box.new (((w.alloc (.cells #[.int .i64 a, .int .i64 b] 29)).alloc (.cells #[.int .i64 p.x, .int .i64 p.y, .int .i64 p.e] 26)).alloc (.cells #[.int .i64 q.x, .int .i64 q.y, .int .i64 q.e] 26)) 26 #[.int .i64 0, .int .i64 0, .int .i64 0]
  rw [show (((w.alloc (.cells #[.int .i64 a, .int .i64 b] 29)).alloc (.cells #[.int .i64 p.x, .int .i64 p.y, .int .i64 p.e] 26)).alloc (.cells #[.int .i64 q.x, .int .i64 q.y, .int .i64 q.e] 26)).heap.size = w.heap.size + 3 from by simp] at hxr
  replace h := Below.step h hA
  replace hxc := hxc.kept hA
  replace hxp := hxp.kept hA
  replace hxq := hxq.kept hA
  clear hA
  obtain ⟨kc0, kc1⟩ := hxc.two
  have lc := hxc.lt
  obtain ⟨kp0, kp1, kp2⟩ := hxp.three
  have lp := hxp.lt
  obtain ⟨kq0, kq1, kq2⟩ := hxq.three
  have lq := hxq.lt
  obtain ⟨kr0, kr1, kr2⟩ := hxr.three
  have lr := hxr.lt
  go_enter Tryd.func10, Tryd.ntmps10
  go_wp2_with fail
  refine (isPtS_on a b p _ g).mono ?_
  rintro e w1 ⟨rfl, hb⟩
  replace h := Below.step h hb
  replace hxc := hxc.kept hb
  replace hxp := hxp.kept hb
  replace hxq := hxq.kept hb
  replace hxr := hxr.kept hb
  clear hb kc0 kc1 lc kp0 kp1 kp2 lp kq0 kq1 kq2 lq kr0 kr1 kr2 lr
  obtain ⟨kc0, kc1⟩ := hxc.two
  have lc := hxc.lt
  obtain ⟨kp0, kp1, kp2⟩ := hxp.three
  have lp := hxp.lt
  obtain ⟨kq0, kq1, kq2⟩ := hxq.three
  have lq := hxq.lt
  obtain ⟨kr0, kr1, kr2⟩ := hxr.three
  have lr := hxr.lt
  go_wp2_with fail
  refine (isPtS_off a b q _ g').mono ?_
  rintro e w2 ⟨rfl, hb⟩
  replace h := Below.step h hb
  replace hxc := hxc.kept hb
  replace hxp := hxp.kept hb
  replace hxq := hxq.kept hb
  replace hxr := hxr.kept hb
  clear hb kc0 kc1 lc kp0 kp1 kp2 lp kq0 kq1 kq2 lq kr0 kr1 kr2 lr
  obtain ⟨kc0, kc1⟩ := hxc.two
  have lc := hxc.lt
  obtain ⟨kp0, kp1, kp2⟩ := hxp.three
  have lp := hxp.lt
  obtain ⟨kq0, kq1, kq2⟩ := hxq.three
  have lq := hxq.lt
  obtain ⟨kr0, kr1, kr2⟩ := hxr.three
  have lr := hxr.lt
  have fr0 := hxr.free 0
  have fr1 := hxr.free 1
  have fr2 := hxr.free 2
  obtain ⟨sr0, sr1, sr2⟩ := (((hxr.set 0 (.int .i64 0)).set 1 (.int .i64 0)).set 2 (.int .i64 0)).three
  go_wp2_with fail
  refine bodyPost_ret (v := .tuple #[.agg #[.int .i64 0, .int .i64 0, .int .i64 0], .bool false]) (by simp [results, Tryd.results10, go_sem, sr0, sr1, sr2]) (by rfl) ⟨by rfl, ?_⟩
  exact below_sets3 h (by omega) _ _ _


set_option maxHeartbeats 1000000 in
set_option maxRecDepth 100000 in
theorem addS_c (a b : Int) (p q : P3) (w : World) (g : PtG a b p) (g' : PtG a b q) (x y u : Int) (ok : Bool) (c1 : ∀ W : World, Calls Tryd.prog 32 #[.agg #[.int .i64 a, .int .i64 b], .agg #[.int .i64 p.x, .int .i64 p.y, .int .i64 p.e], .agg #[.int .i64 q.x, .int .i64 q.y, .int .i64 q.e]] W (GivesPB W x y u ok)) : Calls Tryd.prog 10 #[.agg #[.int .i64 a, .int .i64 b], .agg #[.int .i64 p.x, .int .i64 p.y, .int .i64 p.e], .agg #[.int .i64 q.x, .int .i64 q.y, .int .i64 q.e]] w (GivesPB w x y u ok) := by
  have cp := fun W => isPtS_on a b p W g
  have cq := fun W => isPtS_on a b q W g'
  replace cp := Lib.hid cp
  replace cq := Lib.hid cq
  replace c1 := Lib.hid c1
  clear g g'
  have h := Below.refl w.heap.size w
  have hA := below_alloc1 w (.cells #[.int .i64 a, .int .i64 b] 29)
  have hxc := Box.new w 29 #[.int .i64 a, .int .i64 b]
  replace h := Below.step h hA
  clear hA
  have hA := below_alloc1 (w.alloc (.cells #[.int .i64 a, .int .i64 b] 29)) (.cells #[.int .i64 p.x, .int .i64 p.y, .int .i64 p.e] 26)
  have hxp := Box.new (w.alloc (.cells #[.int .i64 a, .int .i64 b] 29)) 26 #[.int .i64 p.x, .int .i64 p.y, .int .i64 p.e]
  rw [show (w.alloc (.cells #[.int .i64 a, .int .i64 b] 29)).heap.size = w.heap.size + 1 from by simp] at hxp
  replace h := Below.step h hA
  replace hxc := hxc.kept hA
  clear hA
  have hA := below_alloc1 ((w.alloc (.cells #[.int .i64 a, .int .i64 b] 29)).alloc (.cells #[.int .i64 p.x, .int .i64 p.y, .int .i64 p.e] 26)) (.cells #[.int .i64 q.x, .int .i64 q.y, .int .i64 q.e] 26)
  have hxq := Box.new ((w.alloc (.cells #[.int .i64 a, .int .i64 b] 29)).alloc (.cells #[.int .i64 p.x, .int .i64 p.y, .int .i64 p.e] 26)) 26 #[.int .i64 q.x, .int .i64 q.y, .int .i64 q.e]
  rw [show ((w.alloc (.cells #[.int .i64 a, .int .i64 b] 29)).alloc (.cells #[.int .i64 p.x, .int .i64 p.y, .int .i64 p.e] 26)).heap.size = w.heap.size + 2 from by simp] at hxq
  replace h := Below.step h hA
  replace hxc := hxc.kept hA
  replace hxp := hxp.kept hA
  clear hA
  have hA := below_alloc1 (((w.alloc (.cells #[.int .i64 a, .int .i64 b] 29)).alloc (.cells #[.int .i64 p.x, .int .i64 p.y, .int .i64 p.e] 26)).alloc (.cells #[.int .i64 q.x, .int .i64 q.y, .int .i64 q.e] 26)) (.cells #[.int .i64 0, .int .i64 0, .int .i64 0] 26)
  have hxr := Box.new (((w.alloc (.cells #[.int .i64 a, .int .i64 b] 29)).alloc (.cells #[.int .i64 p.x, .int .i64 p.y, .int .i64 p.e] 26)).alloc (.cells #[.int .i64 q.x, .int .i64 q.y, .int .i64 q.e] 26)) 26 #[.int .i64 0, .int .i64 0, .int .i64 0]
  rw [show (((w.alloc (.cells #[.int .i64 a, .int .i64 b] 29)).alloc (.cells #[.int .i64 p.x, .int .i64 p.y, .int .i64 p.e] 26)).alloc (.cells #[.int .i64 q.x, .int .i64 q.y, .int .i64 q.e] 26)).heap.size = w.heap.size + 3 from by simp] at hxr
  replace h := Below.step h hA
  replace hxc := hxc.kept hA
  replace hxp := hxp.kept hA
  replace hxq := hxq.kept hA
  clear hA
  obtain ⟨kc0, kc1⟩ := hxc.two
  have lc := hxc.lt
  obtain ⟨kp0, kp1, kp2⟩ := hxp.three
  have lp := hxp.lt
  obtain ⟨kq0, kq1, kq2⟩ := hxq.three
  have lq := hxq.lt
  obtain ⟨kr0, kr1, kr2⟩ := hxr.three
  have lr := hxr.lt
  go_enter Tryd.func10, Tryd.ntmps10
  go_wp2_with fail
  refine (cp.out _).mono ?_
  rintro e w1 ⟨rfl, hb⟩
  replace h := Below.step h hb
  replace hxc := hxc.kept hb
  replace hxp := hxp.kept hb
  replace hxq := hxq.kept hb
  replace hxr := hxr.kept hb
  clear hb kc0 kc1 lc kp0 kp1 kp2 lp kq0 kq1 kq2 lq kr0 kr1 kr2 lr
  obtain ⟨kc0, kc1⟩ := hxc.two
  have lc := hxc.lt
  obtain ⟨kp0, kp1, kp2⟩ := hxp.three
  have lp := hxp.lt
  obtain ⟨kq0, kq1, kq2⟩ := hxq.three
  have lq := hxq.lt
  obtain ⟨kr0, kr1, kr2⟩ := hxr.three
  have lr := hxr.lt
  go_wp2_with fail
  refine (cq.out _).mono ?_
  rintro e w2 ⟨rfl, hb⟩
  replace h := Below.step h hb
  replace hxc := hxc.kept hb
  replace hxp := hxp.kept hb
  replace hxq := hxq.kept hb
  replace hxr := hxr.kept hb
  clear hb kc0 kc1 lc kp0 kp1 kp2 lp kq0 kq1 kq2 lq kr0 kr1 kr2 lr
  obtain ⟨kc0, kc1⟩ := hxc.two
  have lc := hxc.lt
  obtain ⟨kp0, kp1, kp2⟩ := hxp.three
  have lp := hxp.lt
  obtain ⟨kq0, kq1, kq2⟩ := hxq.three
  have lq := hxq.lt
  obtain ⟨kr0, kr1, kr2⟩ := hxr.three
  have lr := hxr.lt
  go_wp2_with fail
  refine (c1.out _).mono ?_
  rintro e w3 ⟨rfl, hb⟩
  replace h := Below.step h hb
  replace hxc := hxc.kept hb
  replace hxp := hxp.kept hb
  replace hxq := hxq.kept hb
  replace hxr := hxr.kept hb
  clear hb kc0 kc1 lc kp0 kp1 kp2 lp kq0 kq1 kq2 lq kr0 kr1 kr2 lr
  obtain ⟨kc0, kc1⟩ := hxc.two
  have lc := hxc.lt
  obtain ⟨kp0, kp1, kp2⟩ := hxp.three
  have lp := hxp.lt
  obtain ⟨kq0, kq1, kq2⟩ := hxq.three
  have lq := hxq.lt
  obtain ⟨kr0, kr1, kr2⟩ := hxr.three
  have lr := hxr.lt
  have fr0 := hxr.free 0
  have fr1 := hxr.free 1
  have fr2 := hxr.free 2
  obtain ⟨sr0, sr1, sr2⟩ := (((hxr.set 0 (.int .i64 x)).set 1 (.int .i64 y)).set 2 (.int .i64 u)).three
  go_wp2_with fail
  refine bodyPost_ret (v := .tuple #[.agg #[.int .i64 x, .int .i64 y, .int .i64 u], .bool ok]) (by simp [results, Tryd.results10, go_sem, sr0, sr1, sr2]) (by rfl) ⟨by rfl, ?_⟩
  exact below_sets3 h (by omega) _ _ _


set_option maxHeartbeats 1000000 in
set_option maxRecDepth 100000 in
theorem addI_p0 (a b : Int) (q : P3) (w : World) (g : PtG a b .zero) (g' : PtG a b q) : Calls Tryd.prog 13 #[.agg #[.int .i64 a, .int .i64 b], .agg #[.int .i64 0, .int .i64 0, .int .i64 0], .agg #[.int .i64 q.x, .int .i64 q.y, .int .i64 q.e]] w (GivesPB w q.x q.y q.e true) := by
  have cq := fun W => isPtI_on a b q W g'
  replace cq := Lib.hid cq
  clear g'
  have h := Below.refl w.heap.size w
  have hA := below_alloc1 w (.cells #[.int .i64 a, .int .i64 b] 29)
  have hxc := Box.new w 29 #[.int .i64 a, .int .i64 b]
  replace h := Below.step h hA
  clear hA
  have hA := below_alloc1 (w.alloc (.cells #[.int .i64 a, .int .i64 b] 29)) (.cells #[.int .i64 0, .int .i64 0, .int .i64 0] 26)
  have hxp := Box.new (w.alloc (.cells #[.int .i64 a, .int .i64 b] 29)) 26 #[.int .i64 0, .int .i64 0, .int .i64 0]
  rw [show (w.alloc (.cells #[.int .i64 a, .int .i64 b] 29)).heap.size = w.heap.size + 1 from by simp] at hxp
  replace h := Below.step h hA
  replace hxc := hxc.kept hA
  clear hA
  have hA := below_alloc1 ((w.alloc (.cells #[.int .i64 a, .int .i64 b] 29)).alloc (.cells #[.int .i64 0, .int .i64 0, .int .i64 0] 26)) (.cells #[.int .i64 q.x, .int .i64 q.y, .int .i64 q.e] 26)
  have hxq := Box.new ((w.alloc (.cells #[.int .i64 a, .int .i64 b] 29)).alloc (.cells #[.int .i64 0, .int .i64 0, .int .i64 0] 26)) 26 #[.int .i64 q.x, .int .i64 q.y, .int .i64 q.e]
  rw [show ((w.alloc (.cells #[.int .i64 a, .int .i64 b] 29)).alloc (.cells #[.int .i64 0, .int .i64 0, .int .i64 0] 26)).heap.size = w.heap.size + 2 from by simp] at hxq
  replace h := Below.step h hA
  replace hxc := hxc.kept hA
  replace hxp := hxp.kept hA
  clear hA
  have hA := below_alloc1 (((w.alloc (.cells #[.int .i64 a, .int .i64 b] 29)).alloc (.cells #[.int .i64 0, .int .i64 0, .int .i64 0] 26)).alloc (.cells #[.int .i64 q.x, .int .i64 q.y, .int .i64 q.e] 26)) (.cells #[.int .i64 0, .int .i64 0, .int .i64 0] 26)
  have hxr := Box.new (((w.alloc (.cells #[.int .i64 a, .int .i64 b] 29)).alloc (.cells #[.int .i64 0, .int .i64 0, .int .i64 0] 26)).alloc (.cells #[.int .i64 q.x, .int .i64 q.y, .int .i64 q.e] 26)) 26 #[.int .i64 0, .int .i64 0, .int .i64 0]
  rw [show (((w.alloc (.cells #[.int .i64 a, .int .i64 b] 29)).alloc (.cells #[.int .i64 0, .int .i64 0, .int .i64 0] 26)).alloc (.cells #[.int .i64 q.x, .int .i64 q.y, .int .i64 q.e] 26)).heap.size = w.heap.size + 3 from by simp] at hxr
  replace h := Below.step h hA
  replace hxc := hxc.kept hA
  replace hxp := hxp.kept hA
  replace hxq := hxq.kept hA
  clear hA
  obtain ⟨kc0, kc1⟩ := hxc.two
  have lc := hxc.lt
  obtain ⟨kp0, kp1, kp2⟩ := hxp.three
  have lp := hxp.lt
  obtain ⟨kq0, kq1, kq2⟩ := hxq.three
  have lq := hxq.lt
  obtain ⟨kr0, kr1, kr2⟩ := hxr.three
  have lr := hxr.lt
  go_enter Tryd.func13, Tryd.ntmps13
  go_wp2_with fail
  refine (isPtI_on a b .zero _ g).mono ?_
  rintro e w1 ⟨rfl, hb⟩
  replace h := Below.step h hb
  replace hxc := hxc.kept hb
  replace hxp := hxp.kept hb
  replace hxq := hxq.kept hb
  replace hxr := hxr.kept hb
  clear hb kc0 kc1 lc kp0 kp1 kp2 lp kq0 kq1 kq2 lq kr0 kr1 kr2 lr
  obtain ⟨kc0, kc1⟩ := hxc.two
  have lc := hxc.lt
  obtain ⟨kp0, kp1, kp2⟩ := hxp.three
  have lp := hxp.lt
  obtain ⟨kq0, kq1, kq2⟩ := hxq.three
  have lq := hxq.lt
  obtain ⟨kr0, kr1, kr2⟩ := hxr.three
  have lr := hxr.lt
  go_wp2_with fail
  refine (cq.out _).mono ?_
  rintro e w2 ⟨rfl, hb⟩
  replace h := Below.step h hb
  replace hxc := hxc.kept hb
  replace hxp := hxp.kept hb
  replace hxq := hxq.kept hb
  replace hxr := hxr.kept hb
  clear hb kc0 kc1 lc kp0 kp1 kp2 lp kq0 kq1 kq2 lq kr0 kr1 kr2 lr
  obtain ⟨kc0, kc1⟩ := hxc.two
  have lc := hxc.lt
  obtain ⟨kp0, kp1, kp2⟩ := hxp.three
  have lp := hxp.lt
  obtain ⟨kq0, kq1, kq2⟩ := hxq.three
  have lq := hxq.lt
  obtain ⟨kr0, kr1, kr2⟩ := hxr.three
  have lr := hxr.lt
  go_wp2_with fail
  refine (isInf_yes _).mono ?_
  rintro e w3 ⟨rfl, hb⟩
  replace h := Below.step h hb
  replace hxc := hxc.kept hb
  replace hxp := hxp.kept hb
  replace hxq := hxq.kept hb
  replace hxr := hxr.kept hb
  clear hb kc0 kc1 lc kp0 kp1 kp2 lp kq0 kq1 kq2 lq kr0 kr1 kr2 lr
  obtain ⟨kc0, kc1⟩ := hxc.two
  have lc := hxc.lt
  obtain ⟨kp0, kp1, kp2⟩ := hxp.three
  have lp := hxp.lt
  obtain ⟨kq0, kq1, kq2⟩ := hxq.three
  have lq := hxq.lt
  obtain ⟨kr0, kr1, kr2⟩ := hxr.three
  have lr := hxr.lt
  have fr0 := hxr.free 0
  have fr1 := hxr.free 1
  have fr2 := hxr.free 2
  obtain ⟨sr0, sr1, sr2⟩ := (((hxr.set 0 (.int .i64 q.x)).set 1 (.int .i64 q.y)).set 2 (.int .i64 q.e)).three
  go_wp2_with fail
  refine bodyPost_ret (v := .tuple #[.agg #[.int .i64 q.x, .int .i64 q.y, .int .i64 q.e], .bool true]) (by simp [results, Tryd.results13, go_sem, sr0, sr1, sr2]) (by rfl) ⟨by rfl, ?_⟩
  exact below_sets3 h (by omega) _ _ _


set_option maxHeartbeats 1000000 in
set_option maxRecDepth 100000 in
theorem addI_q0 (a b : Int) (p : P3) (w : World) (g : PtG a b p) (hz : p ≠ .zero) (g' : PtG a b .zero) : Calls Tryd.prog 13 #[.agg #[.int .i64 a, .int .i64 b], .agg #[.int .i64 p.x, .int .i64 p.y, .int .i64 p.e], .agg #[.int .i64 0, .int .i64 0, .int .i64 0]] w (GivesPB w p.x p.y p.e true) := by
  have cp := fun W => isPtI_on a b p W g
  have ci := fun W => isInf_no p W hz
  replace cp := Lib.hid cp
  replace ci := Lib.hid ci
  clear g hz
  have h := Below.refl w.heap.size w
  have hA := below_alloc1 w (.cells #[.int .i64 a, .int .i64 b] 29)
  have hxc := Box.new w 29 #[.int .i64 a, .int .i64 b]
  replace h := Below.step h hA
  clear hA
  have hA := below_alloc1 (w.alloc (.cells #[.int .i64 a, .int .i64 b] 29)) (.cells #[.int .i64 p.x, .int .i64 p.y, .int .i64 p.e] 26)
  have hxp := Box.new (w.alloc (.cells #[.int .i64 a, .int .i64 b] 29)) 26 #[.int .i64 p.x, .int .i64 p.y, .int .i64 p.e]
  rw [show (w.alloc (.cells #[.int .i64 a, .int .i64 b] 29)).heap.size = w.heap.size + 1 from by simp] at hxp
  replace h := Below.step h hA
  replace hxc := hxc.kept hA
  clear hA
  have hA := below_alloc1 ((w.alloc (.cells #[.int .i64 a, .int .i64 b] 29)).alloc (.cells #[.int .i64 p.x, .int .i64 p.y, .int .i64 p.e] 26)) (.cells #[.int .i64 0, .int .i64 0, .int .i64 0] 26)
  have hxq := Box.new ((w.alloc (.cells #[.int .i64 a, .int .i64 b] 29)).alloc (.cells #[.int .i64 p.x, .int .i64 p.y, .int .i64 p.e] 26)) 26 #[.int .i64 0, .int .i64 0, .int .i64 0]
  rw [show ((w.alloc (.cells #[.int .i64 a, .int .i64 b] 29)).alloc (.cells #[.int .i64 p.x, .int .i64 p.y, .int .i64 p.e] 26)).heap.size = w.heap.size + 2 from by simp] at hxq
  replace h := Below.step h hA
  replace hxc := hxc.kept hA
  replace hxp := hxp.kept hA
  clear hA
  have hA := below_alloc1 (((w.alloc (.cells #[.int .i64 a, .int .i64 b] 29)).alloc (.cells #[.int .i64 p.x, .int .i64 p.y, .int .i64 p.e] 26)).alloc (.cells #[.int .i64 0, .int .i64 0, .int .i64 0] 26)) (.cells #[.int .i64 0, .int .i64 0, .int .i64 0] 26)
  have hxr := Box.new (((w.alloc (.cells #[.int .i64 a, .int .i64 b] 29)).alloc (.cells #[.int .i64 p.x, .int .i64 p.y, .int .i64 p.e] 26)).alloc (.cells #[.int .i64 0, .int .i64 0, .int .i64 0] 26)) 26 #[.int .i64 0, .int .i64 0, .int .i64 0]
  rw [show (((w.alloc (.cells #[.int .i64 a, .int .i64 b] 29)).alloc (.cells #[.int .i64 p.x, .int .i64 p.y, .int .i64 p.e] 26)).alloc (.cells #[.int .i64 0, .int .i64 0, .int .i64 0] 26)).heap.size = w.heap.size + 3 from by simp] at hxr
  replace h := Below.step h hA
  replace hxc := hxc.kept hA
  replace hxp := hxp.kept hA
  replace hxq := hxq.kept hA
  clear hA
  obtain ⟨kc0, kc1⟩ := hxc.two
  have lc := hxc.lt
  obtain ⟨kp0, kp1, kp2⟩ := hxp.three
  have lp := hxp.lt
  obtain ⟨kq0, kq1, kq2⟩ := hxq.three
  have lq := hxq.lt
  obtain ⟨kr0, kr1, kr2⟩ := hxr.three
  have lr := hxr.lt
  go_enter Tryd.func13, Tryd.ntmps13
  go_wp2_with fail
  refine (cp.out _).mono ?_
  rintro e w1 ⟨rfl, hb⟩
  replace h := Below.step h hb
  replace hxc := hxc.kept hb
  replace hxp := hxp.kept hb
  replace hxq := hxq.kept hb
  replace hxr := hxr.kept hb
  clear hb kc0 kc1 lc kp0 kp1 kp2 lp kq0 kq1 kq2 lq kr0 kr1 kr2 lr
  obtain ⟨kc0, kc1⟩ := hxc.two
  have lc := hxc.lt
  obtain ⟨kp0, kp1, kp2⟩ := hxp.three
  have lp := hxp.lt
  obtain ⟨kq0, kq1, kq2⟩ := hxq.three
  have lq := hxq.lt
  obtain ⟨kr0, kr1, kr2⟩ := hxr.three
  have lr := hxr.lt
  go_wp2_with fail
  refine (isPtI_on a b .zero _ g').mono ?_
  rintro e w2 ⟨rfl, hb⟩
  replace h := Below.step h hb
  replace hxc := hxc.kept hb
  replace hxp := hxp.kept hb
  replace hxq := hxq.kept hb
  replace hxr := hxr.kept hb
  clear hb kc0 kc1 lc kp0 kp1 kp2 lp kq0 kq1 kq2 lq kr0 kr1 kr2 lr
  obtain ⟨kc0, kc1⟩ := hxc.two
  have lc := hxc.lt
  obtain ⟨kp0, kp1, kp2⟩ := hxp.three
  have lp := hxp.lt
  obtain ⟨kq0, kq1, kq2⟩ := hxq.three
  have lq := hxq.lt
  obtain ⟨kr0, kr1, kr2⟩ := hxr.three
  have lr := hxr.lt
  go_wp2_with fail
  refine (ci.out _).mono ?_
  rintro e w3 ⟨rfl, hb⟩
  replace h := Below.step h hb
  replace hxc := hxc.kept hb
  replace hxp := hxp.kept hb
  replace hxq := hxq.kept hb
  replace hxr := hxr.kept hb
  clear hb kc0 kc1 lc kp0 kp1 kp2 lp kq0 kq1 kq2 lq kr0 kr1 kr2 lr
  obtain ⟨kc0, kc1⟩ := hxc.two
  have lc := hxc.lt
  obtain ⟨kp0, kp1, kp2⟩ := hxp.three
  have lp := hxp.lt
  obtain ⟨kq0, kq1, kq2⟩ := hxq.three
  have lq := hxq.lt
  obtain ⟨kr0, kr1, kr2⟩ := hxr.three
  have lr := hxr.lt
  go_wp2_with fail
  refine (isInf_yes _).mono ?_
  rintro e w4 ⟨rfl, hb⟩
  replace h := Below.step h hb
  replace hxc := hxc.kept hb
  replace hxp := hxp.kept hb
  replace hxq := hxq.kept hb
  replace hxr := hxr.kept hb
  clear hb kc0 kc1 lc kp0 kp1 kp2 lp kq0 kq1 kq2 lq kr0 kr1 kr2 lr
  obtain ⟨kc0, kc1⟩ := hxc.two
  have lc := hxc.lt
  obtain ⟨kp0, kp1, kp2⟩ := hxp.three
  have lp := hxp.lt
  obtain ⟨kq0, kq1, kq2⟩ := hxq.three
  have lq := hxq.lt
  obtain ⟨kr0, kr1, kr2⟩ := hxr.three
  have lr := hxr.lt
  have fr0 := hxr.free 0
  have fr1 := hxr.free 1
  have fr2 := hxr.free 2
  obtain ⟨sr0, sr1, sr2⟩ := (((hxr.set 0 (.int .i64 p.x)).set 1 (.int .i64 p.y)).set 2 (.int .i64 p.e)).three
  go_wp2_with fail
  refine bodyPost_ret (v := .tuple #[.agg #[.int .i64 p.x, .int .i64 p.y, .int .i64 p.e], .bool true]) (by simp [results, Tryd.results13, go_sem, sr0, sr1, sr2]) (by rfl) ⟨by rfl, ?_⟩
  exact below_sets3 h (by omega) _ _ _


set_option maxHeartbeats 1000000 in
set_option maxRecDepth 100000 in
theorem addI_v (a b : Int) (p q : P3) (w : World) (g : PtG a b p) (hz : p ≠ .zero) (g' : PtG a b q) (hz' : q ≠ .zero) (hv : q = p.neg) : Calls Tryd.prog 13 #[.agg #[.int .i64 a, .int .i64 b], .agg #[.int .i64 p.x, .int .i64 p.y, .int .i64 p.e], .agg #[.int .i64 q.x, .int .i64 q.y, .int .i64 q.e]] w (GivesPB w 0 0 0 true) := by
  have cp := fun W => isPtI_on a b p W g
  have cq := fun W => isPtI_on a b q W g'
  have cip := fun W => isInf_no p W hz
  have ciq := fun W => isInf_no q W hz'
  have yb := g.2.bd.2.2
  have co := fun W => oppI_any p W (by omega)
  replace co := Lib.hid co
  replace cp := Lib.hid cp
  replace cq := Lib.hid cq
  replace cip := Lib.hid cip
  replace ciq := Lib.hid ciq
  have e7 : (q.x == p.x && q.y == -p.y && q.e == p.e) = true := by rw [hv]; simp [P3.neg]
  clear g hz g' hz' hv
  have h := Below.refl w.heap.size w
  have hA := below_alloc1 w (.cells #[.int .i64 a, .int .i64 b] 29)
  have hxc := Box.new w 29 #[.int .i64 a, .int .i64 b]
  replace h := Below.step h hA
  clear hA
  have hA := below_alloc1 (w.alloc (.cells #[.int .i64 a, .int .i64 b] 29)) (.cells #[.int .i64 p.x, .int .i64 p.y, .int .i64 p.e] 26)
  have hxp := Box.new (w.alloc (.cells #[.int .i64 a, .int .i64 b] 29)) 26 #[.int .i64 p.x, .int .i64 p.y, .int .i64 p.e]
  rw [show (w.alloc (.cells #[.int .i64 a, .int .i64 b] 29)).heap.size = w.heap.size + 1 from by simp] at hxp
  replace h := Below.step h hA
  replace hxc := hxc.kept hA
  clear hA
  have hA := below_alloc1 ((w.alloc (.cells #[.int .i64 a, .int .i64 b] 29)).alloc (.cells #[.int .i64 p.x, .int .i64 p.y, .int .i64 p.e] 26)) (.cells #[.int .i64 q.x, .int .i64 q.y, .int .i64 q.e] 26)
  have hxq := Box.new ((w.alloc (.cells #[.int .i64 a, .int .i64 b] 29)).alloc (.cells #[.int .i64 p.x, .int .i64 p.y, .int .i64 p.e] 26)) 26 #[.int .i64 q.x, .int .i64 q.y, .int .i64 q.e]
  rw [show ((w.alloc (.cells #[.int .i64 a, .int .i64 b] 29)).alloc (.cells #[.int .i64 p.x, .int .i64 p.y, .int .i64 p.e] 26)).heap.size = w.heap.size + 2 from by simp] at hxq
  replace h := Below.step h hA
  replace hxc := hxc.kept hA
  replace hxp := hxp.kept hA
  clear hA
  have hA := below_alloc1 (((w.alloc (.cells #[.int .i64 a, .int .i64 b] 29)).alloc (.cells #[.int .i64 p.x, .int .i64 p.y, .int .i64 p.e] 26)).alloc (.cells #[.int .i64 q.x, .int .i64 q.y, .int .i64 q.e] 26)) (.cells #[.int .i64 0, .int .i64 0, .int .i64 0] 26)
  have hxr := Box.new (((w.alloc (.cells #[.int .i64 a, .int .i64 b] 29)).alloc (.cells #[.int .i64 p.x, .int .i64 p.y, .int .i64 p.e] 26)).alloc (.cells #[.int .i64 q.x, .int .i64 q.y, .int .i64 q.e] 26)) 26 #[.int .i64 0, .int .i64 0, .int .i64 0]
  rw [show (((w.alloc (.cells #[.int .i64 a, .int .i64 b] 29)).alloc (.cells #[.int .i64 p.x, .int .i64 p.y, .int .i64 p.e] 26)).alloc (.cells #[.int .i64 q.x, .int .i64 q.y, .int .i64 q.e] 26)).heap.size = w.heap.size + 3 from by simp] at hxr
  replace h := Below.step h hA
  replace hxc := hxc.kept hA
  replace hxp := hxp.kept hA
  replace hxq := hxq.kept hA
  clear hA
  obtain ⟨kc0, kc1⟩ := hxc.two
  have lc := hxc.lt
  obtain ⟨kp0, kp1, kp2⟩ := hxp.three
  have lp := hxp.lt
  obtain ⟨kq0, kq1, kq2⟩ := hxq.three
  have lq := hxq.lt
  obtain ⟨kr0, kr1, kr2⟩ := hxr.three
  have lr := hxr.lt
  go_enter Tryd.func13, Tryd.ntmps13
  go_wp2_with fail
  refine (cp.out _).mono ?_
  rintro e w1 ⟨rfl, hb⟩
  replace h := Below.step h hb
  replace hxc := hxc.kept hb
  replace hxp := hxp.kept hb
  replace hxq := hxq.kept hb
  replace hxr := hxr.kept hb
  clear hb kc0 kc1 lc kp0 kp1 kp2 lp kq0 kq1 kq2 lq kr0 kr1 kr2 lr
  obtain ⟨kc0, kc1⟩ := hxc.two
  have lc := hxc.lt
  obtain ⟨kp0, kp1, kp2⟩ := hxp.three
  have lp := hxp.lt
  obtain ⟨kq0, kq1, kq2⟩ := hxq.three
  have lq := hxq.lt
  obtain ⟨kr0, kr1, kr2⟩ := hxr.three
  have lr := hxr.lt
  go_wp2_with fail
  refine (cq.out _).mono ?_
  rintro e w2 ⟨rfl, hb⟩
  replace h := Below.step h hb
  replace hxc := hxc.kept hb
  replace hxp := hxp.kept hb
  replace hxq := hxq.kept hb
  replace hxr := hxr.kept hb
  clear hb kc0 kc1 lc kp0 kp1 kp2 lp kq0 kq1 kq2 lq kr0 kr1 kr2 lr
  obtain ⟨kc0, kc1⟩ := hxc.two
  have lc := hxc.lt
  obtain ⟨kp0, kp1, kp2⟩ := hxp.three
  have lp := hxp.lt
  obtain ⟨kq0, kq1, kq2⟩ := hxq.three
  have lq := hxq.lt
  obtain ⟨kr0, kr1, kr2⟩ := hxr.three
  have lr := hxr.lt
  go_wp2_with fail
  refine (cip.out _).mono ?_
  rintro e w3 ⟨rfl, hb⟩
  replace h := Below.step h hb
  replace hxc := hxc.kept hb
  replace hxp := hxp.kept hb
  replace hxq := hxq.kept hb
  replace hxr := hxr.kept hb
  clear hb kc0 kc1 lc kp0 kp1 kp2 lp kq0 kq1 kq2 lq kr0 kr1 kr2 lr
  obtain ⟨kc0, kc1⟩ := hxc.two
  have lc := hxc.lt
  obtain ⟨kp0, kp1, kp2⟩ := hxp.three
  have lp := hxp.lt
  obtain ⟨kq0, kq1, kq2⟩ := hxq.three
  have lq := hxq.lt
  obtain ⟨kr0, kr1, kr2⟩ := hxr.three
  have lr := hxr.lt
  go_wp2_with fail
  refine (ciq.out _).mono ?_
  rintro e w4 ⟨rfl, hb⟩
  replace h := Below.step h hb
  replace hxc := hxc.kept hb
  replace hxp := hxp.kept hb
  replace hxq := hxq.kept hb
  replace hxr := hxr.kept hb
  clear hb kc0 kc1 lc kp0 kp1 kp2 lp kq0 kq1 kq2 lq kr0 kr1 kr2 lr
  obtain ⟨kc0, kc1⟩ := hxc.two
  have lc := hxc.lt
  obtain ⟨kp0, kp1, kp2⟩ := hxp.three
  have lp := hxp.lt
  obtain ⟨kq0, kq1, kq2⟩ := hxq.three
  have lq := hxq.lt
  obtain ⟨kr0, kr1, kr2⟩ := hxr.three
  have lr := hxr.lt
  go_upto_region 7 with fail
  have KM : ∀ (W : World), Below w4.heap.size w4 W → (W.cell? ⟨w.heap.size, 0, none⟩ = some (.int .i64 a) ∧ W.cell? ⟨w.heap.size, 1, none⟩ = some (.int .i64 b) ∧ W.cell? ⟨(w.heap.size + 1), 0, none⟩ = some (.int .i64 p.x) ∧ W.cell? ⟨(w.heap.size + 1), 1, none⟩ = some (.int .i64 p.y) ∧ W.cell? ⟨(w.heap.size + 1), 2, none⟩ = some (.int .i64 p.e) ∧ W.cell? ⟨(w.heap.size + 2), 0, none⟩ = some (.int .i64 q.x) ∧ W.cell? ⟨(w.heap.size + 2), 1, none⟩ = some (.int .i64 q.y) ∧ W.cell? ⟨(w.heap.size + 2), 2, none⟩ = some (.int .i64 q.e) ∧ Below w4.heap.size w4 W) := fun W hW => ⟨(hxc.kept hW).two.1, (hxc.kept hW).two.2, (hxp.kept hW).three.1, (hxp.kept hW).three.2.1, (hxp.kept hW).three.2.2, (hxq.kept hW).three.1, (hxq.kept hW).three.2.1, (hxq.kept hW).three.2.2, hW⟩
  have KC : ∀ (W W' : World), Below W.heap.size W W' → (W.cell? ⟨w.heap.size, 0, none⟩ = some (.int .i64 a) ∧ W.cell? ⟨w.heap.size, 1, none⟩ = some (.int .i64 b) ∧ W.cell? ⟨(w.heap.size + 1), 0, none⟩ = some (.int .i64 p.x) ∧ W.cell? ⟨(w.heap.size + 1), 1, none⟩ = some (.int .i64 p.y) ∧ W.cell? ⟨(w.heap.size + 1), 2, none⟩ = some (.int .i64 p.e) ∧ W.cell? ⟨(w.heap.size + 2), 0, none⟩ = some (.int .i64 q.x) ∧ W.cell? ⟨(w.heap.size + 2), 1, none⟩ = some (.int .i64 q.y) ∧ W.cell? ⟨(w.heap.size + 2), 2, none⟩ = some (.int .i64 q.e) ∧ Below w4.heap.size w4 W) → (W'.cell? ⟨w.heap.size, 0, none⟩ = some (.int .i64 a) ∧ W'.cell? ⟨w.heap.size, 1, none⟩ = some (.int .i64 b) ∧ W'.cell? ⟨(w.heap.size + 1), 0, none⟩ = some (.int .i64 p.x) ∧ W'.cell? ⟨(w.heap.size + 1), 1, none⟩ = some (.int .i64 p.y) ∧ W'.cell? ⟨(w.heap.size + 1), 2, none⟩ = some (.int .i64 p.e) ∧ W'.cell? ⟨(w.heap.size + 2), 0, none⟩ = some (.int .i64 q.x) ∧ W'.cell? ⟨(w.heap.size + 2), 1, none⟩ = some (.int .i64 q.y) ∧ W'.cell? ⟨(w.heap.size + 2), 2, none⟩ = some (.int .i64 q.e) ∧ Below w4.heap.size w4 W') := fun W W' hb ⟨_, _, _, _, _, _, _, _, hW⟩ => KM _ (Below.step hW hb)
  have KA : ∀ (W : World) (o : Obj), (W.cell? ⟨w.heap.size, 0, none⟩ = some (.int .i64 a) ∧ W.cell? ⟨w.heap.size, 1, none⟩ = some (.int .i64 b) ∧ W.cell? ⟨(w.heap.size + 1), 0, none⟩ = some (.int .i64 p.x) ∧ W.cell? ⟨(w.heap.size + 1), 1, none⟩ = some (.int .i64 p.y) ∧ W.cell? ⟨(w.heap.size + 1), 2, none⟩ = some (.int .i64 p.e) ∧ W.cell? ⟨(w.heap.size + 2), 0, none⟩ = some (.int .i64 q.x) ∧ W.cell? ⟨(w.heap.size + 2), 1, none⟩ = some (.int .i64 q.y) ∧ W.cell? ⟨(w.heap.size + 2), 2, none⟩ = some (.int .i64 q.e) ∧ Below w4.heap.size w4 W) → ((W.alloc o).cell? ⟨w.heap.size, 0, none⟩ = some (.int .i64 a) ∧ (W.alloc o).cell? ⟨w.heap.size, 1, none⟩ = some (.int .i64 b) ∧ (W.alloc o).cell? ⟨(w.heap.size + 1), 0, none⟩ = some (.int .i64 p.x) ∧ (W.alloc o).cell? ⟨(w.heap.size + 1), 1, none⟩ = some (.int .i64 p.y) ∧ (W.alloc o).cell? ⟨(w.heap.size + 1), 2, none⟩ = some (.int .i64 p.e) ∧ (W.alloc o).cell? ⟨(w.heap.size + 2), 0, none⟩ = some (.int .i64 q.x) ∧ (W.alloc o).cell? ⟨(w.heap.size + 2), 1, none⟩ = some (.int .i64 q.y) ∧ (W.alloc o).cell? ⟨(w.heap.size + 2), 2, none⟩ = some (.int .i64 q.e) ∧ Below w4.heap.size w4 (W.alloc o)) := fun W o ⟨_, _, _, _, _, _, _, _, hW⟩ => KM _ (Below.step hW (below_alloc1 _ _))
  have KD : ∀ (W : World), (W.cell? ⟨w.heap.size, 0, none⟩ = some (.int .i64 a) ∧ W.cell? ⟨w.heap.size, 1, none⟩ = some (.int .i64 b) ∧ W.cell? ⟨(w.heap.size + 1), 0, none⟩ = some (.int .i64 p.x) ∧ W.cell? ⟨(w.heap.size + 1), 1, none⟩ = some (.int .i64 p.y) ∧ W.cell? ⟨(w.heap.size + 1), 2, none⟩ = some (.int .i64 p.e) ∧ W.cell? ⟨(w.heap.size + 2), 0, none⟩ = some (.int .i64 q.x) ∧ W.cell? ⟨(w.heap.size + 2), 1, none⟩ = some (.int .i64 q.y) ∧ W.cell? ⟨(w.heap.size + 2), 2, none⟩ = some (.int .i64 q.e) ∧ Below w4.heap.size w4 W) → (W.drew.cell? ⟨w.heap.size, 0, none⟩ = some (.int .i64 a) ∧ W.drew.cell? ⟨w.heap.size, 1, none⟩ = some (.int .i64 b) ∧ W.drew.cell? ⟨(w.heap.size + 1), 0, none⟩ = some (.int .i64 p.x) ∧ W.drew.cell? ⟨(w.heap.size + 1), 1, none⟩ = some (.int .i64 p.y) ∧ W.drew.cell? ⟨(w.heap.size + 1), 2, none⟩ = some (.int .i64 p.e) ∧ W.drew.cell? ⟨(w.heap.size + 2), 0, none⟩ = some (.int .i64 q.x) ∧ W.drew.cell? ⟨(w.heap.size + 2), 1, none⟩ = some (.int .i64 q.y) ∧ W.drew.cell? ⟨(w.heap.size + 2), 2, none⟩ = some (.int .i64 q.e) ∧ Below w4.heap.size w4 W.drew) := fun W ⟨_, _, _, _, _, _, _, _, hW⟩ => KM _ (Below.drewN' hW 1)
  have KB : ∀ (W : World), (W.cell? ⟨w.heap.size, 0, none⟩ = some (.int .i64 a) ∧ W.cell? ⟨w.heap.size, 1, none⟩ = some (.int .i64 b) ∧ W.cell? ⟨(w.heap.size + 1), 0, none⟩ = some (.int .i64 p.x) ∧ W.cell? ⟨(w.heap.size + 1), 1, none⟩ = some (.int .i64 p.y) ∧ W.cell? ⟨(w.heap.size + 1), 2, none⟩ = some (.int .i64 p.e) ∧ W.cell? ⟨(w.heap.size + 2), 0, none⟩ = some (.int .i64 q.x) ∧ W.cell? ⟨(w.heap.size + 2), 1, none⟩ = some (.int .i64 q.y) ∧ W.cell? ⟨(w.heap.size + 2), 2, none⟩ = some (.int .i64 q.e) ∧ Below w4.heap.size w4 W) → Below w4.heap.size w4 W := fun W ⟨_, _, _, _, _, _, _, _, hW⟩ => hW
  have KM0 := KM w4.drew ⟨rfl, rfl, rfl, Nat.le_refl _, fun _ _ => rfl⟩
  have KM00 := KM _ (Below.refl _ _)
  replace KC := Lib.hid KC
  replace KA := Lib.hid KA
  replace KD := Lib.hid KD
  replace KB := Lib.hid KB
  clear KM kc0 kc1 lc kp0 kp1 kp2 lp kq0 kq1 kq2 lq kr0 kr1 kr2 lr
  go_cut [30] (fun s30 wx => s30 = .bool true ∧ Below w4.heap.size w4 wx)
  case first =>
    go_region_held3 (fun w' => w'.cell? ⟨w.heap.size, 0, none⟩ = some (.int .i64 a) ∧ w'.cell? ⟨w.heap.size, 1, none⟩ = some (.int .i64 b) ∧ w'.cell? ⟨(w.heap.size + 1), 0, none⟩ = some (.int .i64 p.x) ∧ w'.cell? ⟨(w.heap.size + 1), 1, none⟩ = some (.int .i64 p.y) ∧ w'.cell? ⟨(w.heap.size + 1), 2, none⟩ = some (.int .i64 p.e) ∧ w'.cell? ⟨(w.heap.size + 2), 0, none⟩ = some (.int .i64 q.x) ∧ w'.cell? ⟨(w.heap.size + 2), 1, none⟩ = some (.int .i64 q.y) ∧ w'.cell? ⟨(w.heap.size + 2), 2, none⟩ = some (.int .i64 q.e) ∧ Below w4.heap.size w4 w') ((first | (with_reducible assumption) | ((with_reducible refine KD.out _ ?_); (with_reducible assumption)) | ((with_reducible refine KA.out _ _ ?_); (first | (with_reducible assumption) | ((with_reducible refine KD.out _ ?_); (with_reducible assumption)))) | ((with_reducible refine KC.out _ _ ?_ ?_); (with_reducible assumption); (with_reducible assumption))))
      (first
        | (go_at_call 35; (with_reducible refine (co.out _).mono ?_); rintro e wC0 ⟨rfl, hbC⟩; have hS0 : wC0.cell? ⟨w.heap.size, 0, none⟩ = some (.int .i64 a) ∧ wC0.cell? ⟨w.heap.size, 1, none⟩ = some (.int .i64 b) ∧ wC0.cell? ⟨(w.heap.size + 1), 0, none⟩ = some (.int .i64 p.x) ∧ wC0.cell? ⟨(w.heap.size + 1), 1, none⟩ = some (.int .i64 p.y) ∧ wC0.cell? ⟨(w.heap.size + 1), 2, none⟩ = some (.int .i64 p.e) ∧ wC0.cell? ⟨(w.heap.size + 2), 0, none⟩ = some (.int .i64 q.x) ∧ wC0.cell? ⟨(w.heap.size + 2), 1, none⟩ = some (.int .i64 q.y) ∧ wC0.cell? ⟨(w.heap.size + 2), 2, none⟩ = some (.int .i64 q.e) ∧ Below w4.heap.size w4 wC0 := KC.out _ _ hbC (by assumption)))
    all_goals (go_wp2_with fail; go_meet)
    all_goals refine ⟨(by first | with_reducible rfl | rw [e7]), KB.out _ ?_⟩
    all_goals (first | (with_reducible assumption) | ((with_reducible refine KD.out _ ?_); (with_reducible assumption)))
  case rest =>
  obtain ⟨rfl, hb⟩ := hcut
  clear KM0 KM00 KC KA KD KB
  replace h := Below.step h hb
  replace hxc := hxc.kept hb
  replace hxp := hxp.kept hb
  replace hxq := hxq.kept hb
  replace hxr := hxr.kept hb
  clear hb
  obtain ⟨kc0, kc1⟩ := hxc.two
  have lc := hxc.lt
  obtain ⟨kp0, kp1, kp2⟩ := hxp.three
  have lp := hxp.lt
  obtain ⟨kq0, kq1, kq2⟩ := hxq.three
  have lq := hxq.lt
  obtain ⟨kr0, kr1, kr2⟩ := hxr.three
  have lr := hxr.lt
  have fr0 := hxr.free 0
  have fr1 := hxr.free 1
  have fr2 := hxr.free 2
  obtain ⟨sr0, sr1, sr2⟩ := (((hxr.set 0 (.int .i64 0)).set 1 (.int .i64 0)).set 2 (.int .i64 0)).three
  go_wp2_with fail
  refine bodyPost_ret (v := .tuple #[.agg #[.int .i64 0, .int .i64 0, .int .i64 0], .bool true]) (by simp [results, Tryd.results13, go_sem, sr0, sr1, sr2]) (by rfl) ⟨by rfl, ?_⟩
  exact below_sets3 h (by omega) _ _ _


set_option maxHeartbeats 1000000 in
set_option maxRecDepth 100000 in
theorem addI_no (a b : Int) (p q : P3) (w : World) (hL : Lim w) (g : PtG a b p) (hz : p ≠ .zero) (g' : PtG a b q) (hz' : q ≠ .zero) (hv : ¬ q = p.neg) (r s : Int) (c1 : ∀ W : World, Lim W → Calls Tryd.prog 29 #[.agg #[.int .i64 a, .int .i64 b], .agg #[.int .i64 p.x, .int .i64 p.y, .int .i64 p.e], .agg #[.int .i64 q.x, .int .i64 q.y, .int .i64 q.e]] W (GivesFB W r s false)) : Calls Tryd.prog 13 #[.agg #[.int .i64 a, .int .i64 b], .agg #[.int .i64 p.x, .int .i64 p.y, .int .i64 p.e], .agg #[.int .i64 q.x, .int .i64 q.y, .int .i64 q.e]] w (GivesPB w 0 0 0 false) := by
  have cp := fun W => isPtI_on a b p W g
  have cq := fun W => isPtI_on a b q W g'
  have cip := fun W => isInf_no p W hz
  have ciq := fun W => isInf_no q W hz'
  have yb := g.2.bd.2.2
  have co := fun W => oppI_any p W (by omega)
  replace co := Lib.hid co
  replace cp := Lib.hid cp
  replace cq := Lib.hid cq
  replace cip := Lib.hid cip
  replace ciq := Lib.hid ciq
  have e7 : (q.x == p.x && q.y == -p.y && q.e == p.e) = false := neq_false (q := p.neg) (p := q) hv
  replace c1 := Lib.hid c1
  clear g hz g' hz' hv
  have h := Below.refl w.heap.size w
  have hA := below_alloc1 w (.cells #[.int .i64 a, .int .i64 b] 29)
  have hxc := Box.new w 29 #[.int .i64 a, .int .i64 b]
  replace h := Below.step h hA
  clear hA
  have hA := below_alloc1 (w.alloc (.cells #[.int .i64 a, .int .i64 b] 29)) (.cells #[.int .i64 p.x, .int .i64 p.y, .int .i64 p.e] 26)
  have hxp := Box.new (w.alloc (.cells #[.int .i64 a, .int .i64 b] 29)) 26 #[.int .i64 p.x, .int .i64 p.y, .int .i64 p.e]
  rw [show (w.alloc (.cells #[.int .i64 a, .int .i64 b] 29)).heap.size = w.heap.size + 1 from by simp] at hxp
  replace h := Below.step h hA
  replace hxc := hxc.kept hA
  clear hA
  have hA := below_alloc1 ((w.alloc (.cells #[.int .i64 a, .int .i64 b] 29)).alloc (.cells #[.int .i64 p.x, .int .i64 p.y, .int .i64 p.e] 26)) (.cells #[.int .i64 q.x, .int .i64 q.y, .int .i64 q.e] 26)
  have hxq := Box.new ((w.alloc (.cells #[.int .i64 a, .int .i64 b] 29)).alloc (.cells #[.int .i64 p.x, .int .i64 p.y, .int .i64 p.e] 26)) 26 #[.int .i64 q.x, .int .i64 q.y, .int .i64 q.e]
  rw [show ((w.alloc (.cells #[.int .i64 a, .int .i64 b] 29)).alloc (.cells #[.int .i64 p.x, .int .i64 p.y, .int .i64 p.e] 26)).heap.size = w.heap.size + 2 from by simp] at hxq
  replace h := Below.step h hA
  replace hxc := hxc.kept hA
  replace hxp := hxp.kept hA
  clear hA
  have hA := below_alloc1 (((w.alloc (.cells #[.int .i64 a, .int .i64 b] 29)).alloc (.cells #[.int .i64 p.x, .int .i64 p.y, .int .i64 p.e] 26)).alloc (.cells #[.int .i64 q.x, .int .i64 q.y, .int .i64 q.e] 26)) (.cells #[.int .i64 0, .int .i64 0, .int .i64 0] 26)
  have hxr := Box.new (((w.alloc (.cells #[.int .i64 a, .int .i64 b] 29)).alloc (.cells #[.int .i64 p.x, .int .i64 p.y, .int .i64 p.e] 26)).alloc (.cells #[.int .i64 q.x, .int .i64 q.y, .int .i64 q.e] 26)) 26 #[.int .i64 0, .int .i64 0, .int .i64 0]
  rw [show (((w.alloc (.cells #[.int .i64 a, .int .i64 b] 29)).alloc (.cells #[.int .i64 p.x, .int .i64 p.y, .int .i64 p.e] 26)).alloc (.cells #[.int .i64 q.x, .int .i64 q.y, .int .i64 q.e] 26)).heap.size = w.heap.size + 3 from by simp] at hxr
  replace h := Below.step h hA
  replace hxc := hxc.kept hA
  replace hxp := hxp.kept hA
  replace hxq := hxq.kept hA
  clear hA
  obtain ⟨kc0, kc1⟩ := hxc.two
  have lc := hxc.lt
  obtain ⟨kp0, kp1, kp2⟩ := hxp.three
  have lp := hxp.lt
  obtain ⟨kq0, kq1, kq2⟩ := hxq.three
  have lq := hxq.lt
  obtain ⟨kr0, kr1, kr2⟩ := hxr.three
  have lr := hxr.lt
  replace hL := hL.kept h
  go_enter Tryd.func13, Tryd.ntmps13
  go_wp2_with fail
  refine (cp.out _).mono ?_
  rintro e w1 ⟨rfl, hb⟩
  replace h := Below.step h hb
  replace hxc := hxc.kept hb
  replace hxp := hxp.kept hb
  replace hxq := hxq.kept hb
  replace hxr := hxr.kept hb
  replace hL := hL.kept hb
  clear hb kc0 kc1 lc kp0 kp1 kp2 lp kq0 kq1 kq2 lq kr0 kr1 kr2 lr
  obtain ⟨kc0, kc1⟩ := hxc.two
  have lc := hxc.lt
  obtain ⟨kp0, kp1, kp2⟩ := hxp.three
  have lp := hxp.lt
  obtain ⟨kq0, kq1, kq2⟩ := hxq.three
  have lq := hxq.lt
  obtain ⟨kr0, kr1, kr2⟩ := hxr.three
  have lr := hxr.lt
  go_wp2_with fail
  refine (cq.out _).mono ?_
  rintro e w2 ⟨rfl, hb⟩
  replace h := Below.step h hb
  replace hxc := hxc.kept hb
  replace hxp := hxp.kept hb
  replace hxq := hxq.kept hb
  replace hxr := hxr.kept hb
  replace hL := hL.kept hb
  clear hb kc0 kc1 lc kp0 kp1 kp2 lp kq0 kq1 kq2 lq kr0 kr1 kr2 lr
  obtain ⟨kc0, kc1⟩ := hxc.two
  have lc := hxc.lt
  obtain ⟨kp0, kp1, kp2⟩ := hxp.three
  have lp := hxp.lt
  obtain ⟨kq0, kq1, kq2⟩ := hxq.three
  have lq := hxq.lt
  obtain ⟨kr0, kr1, kr2⟩ := hxr.three
  have lr := hxr.lt
  go_wp2_with fail
  refine (cip.out _).mono ?_
  rintro e w3 ⟨rfl, hb⟩
  replace h := Below.step h hb
  replace hxc := hxc.kept hb
  replace hxp := hxp.kept hb
  replace hxq := hxq.kept hb
  replace hxr := hxr.kept hb
  replace hL := hL.kept hb
  clear hb kc0 kc1 lc kp0 kp1 kp2 lp kq0 kq1 kq2 lq kr0 kr1 kr2 lr
  obtain ⟨kc0, kc1⟩ := hxc.two
  have lc := hxc.lt
  obtain ⟨kp0, kp1, kp2⟩ := hxp.three
  have lp := hxp.lt
  obtain ⟨kq0, kq1, kq2⟩ := hxq.three
  have lq := hxq.lt
  obtain ⟨kr0, kr1, kr2⟩ := hxr.three
  have lr := hxr.lt
  go_wp2_with fail
  refine (ciq.out _).mono ?_
  rintro e w4 ⟨rfl, hb⟩
  replace h := Below.step h hb
  replace hxc := hxc.kept hb
  replace hxp := hxp.kept hb
  replace hxq := hxq.kept hb
  replace hxr := hxr.kept hb
  replace hL := hL.kept hb
  clear hb kc0 kc1 lc kp0 kp1 kp2 lp kq0 kq1 kq2 lq kr0 kr1 kr2 lr
  obtain ⟨kc0, kc1⟩ := hxc.two
  have lc := hxc.lt
  obtain ⟨kp0, kp1, kp2⟩ := hxp.three
  have lp := hxp.lt
  obtain ⟨kq0, kq1, kq2⟩ := hxq.three
  have lq := hxq.lt
  obtain ⟨kr0, kr1, kr2⟩ := hxr.three
  have lr := hxr.lt
  go_upto_region 7 with fail
  have KM : ∀ (W : World), Below w4.heap.size w4 W → (W.cell? ⟨w.heap.size, 0, none⟩ = some (.int .i64 a) ∧ W.cell? ⟨w.heap.size, 1, none⟩ = some (.int .i64 b) ∧ W.cell? ⟨(w.heap.size + 1), 0, none⟩ = some (.int .i64 p.x) ∧ W.cell? ⟨(w.heap.size + 1), 1, none⟩ = some (.int .i64 p.y) ∧ W.cell? ⟨(w.heap.size + 1), 2, none⟩ = some (.int .i64 p.e) ∧ W.cell? ⟨(w.heap.size + 2), 0, none⟩ = some (.int .i64 q.x) ∧ W.cell? ⟨(w.heap.size + 2), 1, none⟩ = some (.int .i64 q.y) ∧ W.cell? ⟨(w.heap.size + 2), 2, none⟩ = some (.int .i64 q.e) ∧ Below w4.heap.size w4 W) := fun W hW => ⟨(hxc.kept hW).two.1, (hxc.kept hW).two.2, (hxp.kept hW).three.1, (hxp.kept hW).three.2.1, (hxp.kept hW).three.2.2, (hxq.kept hW).three.1, (hxq.kept hW).three.2.1, (hxq.kept hW).three.2.2, hW⟩
  have KC : ∀ (W W' : World), Below W.heap.size W W' → (W.cell? ⟨w.heap.size, 0, none⟩ = some (.int .i64 a) ∧ W.cell? ⟨w.heap.size, 1, none⟩ = some (.int .i64 b) ∧ W.cell? ⟨(w.heap.size + 1), 0, none⟩ = some (.int .i64 p.x) ∧ W.cell? ⟨(w.heap.size + 1), 1, none⟩ = some (.int .i64 p.y) ∧ W.cell? ⟨(w.heap.size + 1), 2, none⟩ = some (.int .i64 p.e) ∧ W.cell? ⟨(w.heap.size + 2), 0, none⟩ = some (.int .i64 q.x) ∧ W.cell? ⟨(w.heap.size + 2), 1, none⟩ = some (.int .i64 q.y) ∧ W.cell? ⟨(w.heap.size + 2), 2, none⟩ = some (.int .i64 q.e) ∧ Below w4.heap.size w4 W) → (W'.cell? ⟨w.heap.size, 0, none⟩ = some (.int .i64 a) ∧ W'.cell? ⟨w.heap.size, 1, none⟩ = some (.int .i64 b) ∧ W'.cell? ⟨(w.heap.size + 1), 0, none⟩ = some (.int .i64 p.x) ∧ W'.cell? ⟨(w.heap.size + 1), 1, none⟩ = some (.int .i64 p.y) ∧ W'.cell? ⟨(w.heap.size + 1), 2, none⟩ = some (.int .i64 p.e) ∧ W'.cell? ⟨(w.heap.size + 2), 0, none⟩ = some (.int .i64 q.x) ∧ W'.cell? ⟨(w.heap.size + 2), 1, none⟩ = some (.int .i64 q.y) ∧ W'.cell? ⟨(w.heap.size + 2), 2, none⟩ = some (.int .i64 q.e) ∧ Below w4.heap.size w4 W') := fun W W' hb ⟨_, _, _, _, _, _, _, _, hW⟩ => KM _ (Below.step hW hb)
  have KA : ∀ (W : World) (o : Obj), (W.cell? ⟨w.heap.size, 0, none⟩ = some (.int .i64 a) ∧ W.cell? ⟨w.heap.size, 1, none⟩ = some (.int .i64 b) ∧ W.cell? ⟨(w.heap.size + 1), 0, none⟩ = some (.int .i64 p.x) ∧ W.cell? ⟨(w.heap.size + 1), 1, none⟩ = some (.int .i64 p.y) ∧ W.cell? ⟨(w.heap.size + 1), 2, none⟩ = some (.int .i64 p.e) ∧ W.cell? ⟨(w.heap.size + 2), 0, none⟩ = some (.int .i64 q.x) ∧ W.cell? ⟨(w.heap.size + 2), 1, none⟩ = some (.int .i64 q.y) ∧ W.cell? ⟨(w.heap.size + 2), 2, none⟩ = some (.int .i64 q.e) ∧ Below w4.heap.size w4 W) → ((W.alloc o).cell? ⟨w.heap.size, 0, none⟩ = some (.int .i64 a) ∧ (W.alloc o).cell? ⟨w.heap.size, 1, none⟩ = some (.int .i64 b) ∧ (W.alloc o).cell? ⟨(w.heap.size + 1), 0, none⟩ = some (.int .i64 p.x) ∧ (W.alloc o).cell? ⟨(w.heap.size + 1), 1, none⟩ = some (.int .i64 p.y) ∧ (W.alloc o).cell? ⟨(w.heap.size + 1), 2, none⟩ = some (.int .i64 p.e) ∧ (W.alloc o).cell? ⟨(w.heap.size + 2), 0, none⟩ = some (.int .i64 q.x) ∧ (W.alloc o).cell? ⟨(w.heap.size + 2), 1, none⟩ = some (.int .i64 q.y) ∧ (W.alloc o).cell? ⟨(w.heap.size + 2), 2, none⟩ = some (.int .i64 q.e) ∧ Below w4.heap.size w4 (W.alloc o)) := fun W o ⟨_, _, _, _, _, _, _, _, hW⟩ => KM _ (Below.step hW (below_alloc1 _ _))
  have KD : ∀ (W : World), (W.cell? ⟨w.heap.size, 0, none⟩ = some (.int .i64 a) ∧ W.cell? ⟨w.heap.size, 1, none⟩ = some (.int .i64 b) ∧ W.cell? ⟨(w.heap.size + 1), 0, none⟩ = some (.int .i64 p.x) ∧ W.cell? ⟨(w.heap.size + 1), 1, none⟩ = some (.int .i64 p.y) ∧ W.cell? ⟨(w.heap.size + 1), 2, none⟩ = some (.int .i64 p.e) ∧ W.cell? ⟨(w.heap.size + 2), 0, none⟩ = some (.int .i64 q.x) ∧ W.cell? ⟨(w.heap.size + 2), 1, none⟩ = some (.int .i64 q.y) ∧ W.cell? ⟨(w.heap.size + 2), 2, none⟩ = some (.int .i64 q.e) ∧ Below w4.heap.size w4 W) → (W.drew.cell? ⟨w.heap.size, 0, none⟩ = some (.int .i64 a) ∧ W.drew.cell? ⟨w.heap.size, 1, none⟩ = some (.int .i64 b) ∧ W.drew.cell? ⟨(w.heap.size + 1), 0, none⟩ = some (.int .i64 p.x) ∧ W.drew.cell? ⟨(w.heap.size + 1), 1, none⟩ = some (.int .i64 p.y) ∧ W.drew.cell? ⟨(w.heap.size + 1), 2, none⟩ = some (.int .i64 p.e) ∧ W.drew.cell? ⟨(w.heap.size + 2), 0, none⟩ = some (.int .i64 q.x) ∧ W.drew.cell? ⟨(w.heap.size + 2), 1, none⟩ = some (.int .i64 q.y) ∧ W.drew.cell? ⟨(w.heap.size + 2), 2, none⟩ = some (.int .i64 q.e) ∧ Below w4.heap.size w4 W.drew) := fun W ⟨_, _, _, _, _, _, _, _, hW⟩ => KM _ (Below.drewN' hW 1)
  have KB : ∀ (W : World), (W.cell? ⟨w.heap.size, 0, none⟩ = some (.int .i64 a) ∧ W.cell? ⟨w.heap.size, 1, none⟩ = some (.int .i64 b) ∧ W.cell? ⟨(w.heap.size + 1), 0, none⟩ = some (.int .i64 p.x) ∧ W.cell? ⟨(w.heap.size + 1), 1, none⟩ = some (.int .i64 p.y) ∧ W.cell? ⟨(w.heap.size + 1), 2, none⟩ = some (.int .i64 p.e) ∧ W.cell? ⟨(w.heap.size + 2), 0, none⟩ = some (.int .i64 q.x) ∧ W.cell? ⟨(w.heap.size + 2), 1, none⟩ = some (.int .i64 q.y) ∧ W.cell? ⟨(w.heap.size + 2), 2, none⟩ = some (.int .i64 q.e) ∧ Below w4.heap.size w4 W) → Below w4.heap.size w4 W := fun W ⟨_, _, _, _, _, _, _, _, hW⟩ => hW
  have KL : ∀ (W : World), (W.cell? ⟨w.heap.size, 0, none⟩ = some (.int .i64 a) ∧ W.cell? ⟨w.heap.size, 1, none⟩ = some (.int .i64 b) ∧ W.cell? ⟨(w.heap.size + 1), 0, none⟩ = some (.int .i64 p.x) ∧ W.cell? ⟨(w.heap.size + 1), 1, none⟩ = some (.int .i64 p.y) ∧ W.cell? ⟨(w.heap.size + 1), 2, none⟩ = some (.int .i64 p.e) ∧ W.cell? ⟨(w.heap.size + 2), 0, none⟩ = some (.int .i64 q.x) ∧ W.cell? ⟨(w.heap.size + 2), 1, none⟩ = some (.int .i64 q.y) ∧ W.cell? ⟨(w.heap.size + 2), 2, none⟩ = some (.int .i64 q.e) ∧ Below w4.heap.size w4 W) → Lim W := fun W ⟨_, _, _, _, _, _, _, _, hW⟩ => hL.kept hW
  have KM0 := KM w4.drew ⟨rfl, rfl, rfl, Nat.le_refl _, fun _ _ => rfl⟩
  have KM00 := KM _ (Below.refl _ _)
  replace KC := Lib.hid KC
  replace KA := Lib.hid KA
  replace KD := Lib.hid KD
  replace KB := Lib.hid KB
  replace KL := Lib.hid KL
  clear KM kc0 kc1 lc kp0 kp1 kp2 lp kq0 kq1 kq2 lq kr0 kr1 kr2 lr
  go_cut [30] (fun s30 wx => s30 = .bool false ∧ Below w4.heap.size w4 wx)
  case first =>
    go_region_held3 (fun w' => w'.cell? ⟨w.heap.size, 0, none⟩ = some (.int .i64 a) ∧ w'.cell? ⟨w.heap.size, 1, none⟩ = some (.int .i64 b) ∧ w'.cell? ⟨(w.heap.size + 1), 0, none⟩ = some (.int .i64 p.x) ∧ w'.cell? ⟨(w.heap.size + 1), 1, none⟩ = some (.int .i64 p.y) ∧ w'.cell? ⟨(w.heap.size + 1), 2, none⟩ = some (.int .i64 p.e) ∧ w'.cell? ⟨(w.heap.size + 2), 0, none⟩ = some (.int .i64 q.x) ∧ w'.cell? ⟨(w.heap.size + 2), 1, none⟩ = some (.int .i64 q.y) ∧ w'.cell? ⟨(w.heap.size + 2), 2, none⟩ = some (.int .i64 q.e) ∧ Below w4.heap.size w4 w') ((first | (with_reducible assumption) | ((with_reducible refine KD.out _ ?_); (with_reducible assumption)) | ((with_reducible refine KA.out _ _ ?_); (first | (with_reducible assumption) | ((with_reducible refine KD.out _ ?_); (with_reducible assumption)))) | ((with_reducible refine KC.out _ _ ?_ ?_); (with_reducible assumption); (with_reducible assumption))))
      (first
        | (go_at_call 35; (with_reducible refine (co.out _).mono ?_); rintro e wC0 ⟨rfl, hbC⟩; have hS0 : wC0.cell? ⟨w.heap.size, 0, none⟩ = some (.int .i64 a) ∧ wC0.cell? ⟨w.heap.size, 1, none⟩ = some (.int .i64 b) ∧ wC0.cell? ⟨(w.heap.size + 1), 0, none⟩ = some (.int .i64 p.x) ∧ wC0.cell? ⟨(w.heap.size + 1), 1, none⟩ = some (.int .i64 p.y) ∧ wC0.cell? ⟨(w.heap.size + 1), 2, none⟩ = some (.int .i64 p.e) ∧ wC0.cell? ⟨(w.heap.size + 2), 0, none⟩ = some (.int .i64 q.x) ∧ wC0.cell? ⟨(w.heap.size + 2), 1, none⟩ = some (.int .i64 q.y) ∧ wC0.cell? ⟨(w.heap.size + 2), 2, none⟩ = some (.int .i64 q.e) ∧ Below w4.heap.size w4 wC0 := KC.out _ _ hbC (by assumption)))
    all_goals (go_wp2_with fail; go_meet)
    all_goals refine ⟨(by first | with_reducible rfl | rw [e7]), KB.out _ ?_⟩
    all_goals (first | (with_reducible assumption) | ((with_reducible refine KD.out _ ?_); (with_reducible assumption)))
  case rest =>
  obtain ⟨rfl, hb⟩ := hcut
  clear KM0 KM00 KC KA KD KB KL
  replace h := Below.step h hb
  replace hxc := hxc.kept hb
  replace hxp := hxp.kept hb
  replace hxq := hxq.kept hb
  replace hxr := hxr.kept hb
  replace hL := hL.kept hb
  clear hb
  obtain ⟨kc0, kc1⟩ := hxc.two
  have lc := hxc.lt
  obtain ⟨kp0, kp1, kp2⟩ := hxp.three
  have lp := hxp.lt
  obtain ⟨kq0, kq1, kq2⟩ := hxq.three
  have lq := hxq.lt
  obtain ⟨kr0, kr1, kr2⟩ := hxr.three
  have lr := hxr.lt
  go_wp2_with fail
  refine (c1.out _ hL).mono ?_
  rintro e w5 ⟨rfl, hb⟩
  replace h := Below.step h hb
  replace hxc := hxc.kept hb
  replace hxp := hxp.kept hb
  replace hxq := hxq.kept hb
  replace hxr := hxr.kept hb
  replace hL := hL.kept hb
  clear hb kc0 kc1 lc kp0 kp1 kp2 lp kq0 kq1 kq2 lq kr0 kr1 kr2 lr
  obtain ⟨kc0, kc1⟩ := hxc.two
  have lc := hxc.lt
  obtain ⟨kp0, kp1, kp2⟩ := hxp.three
  have lp := hxp.lt
  obtain ⟨kq0, kq1, kq2⟩ := hxq.three
  have lq := hxq.lt
  obtain ⟨kr0, kr1, kr2⟩ := hxr.three
  have lr := hxr.lt
  have fr0 := hxr.free 0
  have fr1 := hxr.free 1
  have fr2 := hxr.free 2
  obtain ⟨sr0, sr1, sr2⟩ := ((((hxr.set 0 (.int .i64 0)).set 1 (.int .i64 0)).set 2 (.int .i64 0)).kept (below_alloc1 _ (.cells #[.int .i64 r, .int .i64 s] 49))).three
  go_wp2_with fail
  refine bodyPost_ret (v := .tuple #[.agg #[.int .i64 0, .int .i64 0, .int .i64 0], .bool false]) (by simp [results, Tryd.results13, go_sem, sr0, sr1, sr2]) (by rfl) ⟨by rfl, ?_⟩
  exact Below.step (below_sets3 h (by omega) _ _ _) (below_alloc1 _ _)


set_option maxHeartbeats 1000000 in
set_option maxRecDepth 100000 in
theorem addI_yes (a b : Int) (p q : P3) (w : World) (hL : Lim w) (g : PtG a b p) (hz : p ≠ .zero) (g' : PtG a b q) (hz' : q ≠ .zero) (hv : ¬ q = p.neg) (r s : Int) (c1 : ∀ W : World, Lim W → Calls Tryd.prog 29 #[.agg #[.int .i64 a, .int .i64 b], .agg #[.int .i64 p.x, .int .i64 p.y, .int .i64 p.e], .agg #[.int .i64 q.x, .int .i64 q.y, .int .i64 q.e]] W (GivesFB W r s true)) (x y u : Int) (ok : Bool) (c2 : ∀ W : World, Lim W → Calls Tryd.prog 36 #[.agg #[.int .i64 p.x, .int .i64 p.y, .int .i64 p.e], .agg #[.int .i64 q.x, .int .i64 q.y, .int .i64 q.e], .agg #[.int .i64 r, .int .i64 s]] W (GivesPB W x y u ok)) : Calls Tryd.prog 13 #[.agg #[.int .i64 a, .int .i64 b], .agg #[.int .i64 p.x, .int .i64 p.y, .int .i64 p.e], .agg #[.int .i64 q.x, .int .i64 q.y, .int .i64 q.e]] w (GivesPB w x y u ok) := by
  have cp := fun W => isPtI_on a b p W g
  have cq := fun W => isPtI_on a b q W g'
  have cip := fun W => isInf_no p W hz
  have ciq := fun W => isInf_no q W hz'
  have yb := g.2.bd.2.2
  have co := fun W => oppI_any p W (by omega)
  replace co := Lib.hid co
  replace cp := Lib.hid cp
  replace cq := Lib.hid cq
  replace cip := Lib.hid cip
  replace ciq := Lib.hid ciq
  have e7 : (q.x == p.x && q.y == -p.y && q.e == p.e) = false := neq_false (q := p.neg) (p := q) hv
  replace c1 := Lib.hid c1
  clear g hz g' hz' hv
  replace c2 := Lib.hid c2
  have h := Below.refl w.heap.size w
  have hA := below_alloc1 w (.cells #[.int .i64 a, .int .i64 b] 29)
  have hxc := Box.new w 29 #[.int .i64 a, .int .i64 b]
  replace h := Below.step h hA
  clear hA
  have hA := below_alloc1 (w.alloc (.cells #[.int .i64 a, .int .i64 b] 29)) (.cells #[.int .i64 p.x, .int .i64 p.y, .int .i64 p.e] 26)
  have hxp := Box.new (w.alloc (.cells #[.int .i64 a, .int .i64 b] 29)) 26 #[.int .i64 p.x, .int .i64 p.y, .int .i64 p.e]
  rw [show (w.alloc (.cells #[.int .i64 a, .int .i64 b] 29)).heap.size = w.heap.size + 1 from by simp] at hxp
  replace h := Below.step h hA
  replace hxc := hxc.kept hA
  clear hA
  have hA := below_alloc1 ((w.alloc (.cells #[.int .i64 a, .int .i64 b] 29)).alloc (.cells #[.int .i64 p.x, .int .i64 p.y, .int .i64 p.e] 26)) (.cells #[.int .i64 q.x, .int .i64 q.y, .int .i64 q.e] 26)
  have hxq := Box.new ((w.alloc (.cells #[.int .i64 a, .int .i64 b] 29)).alloc (.cells #[.int .i64 p.x, .int .i64 p.y, .int .i64 p.e] 26)) 26 #[.int .i64 q.x, .int .i64 q.y, .int .i64 q.e]
  rw [show ((w.alloc (.cells #[.int .i64 a, .int .i64 b] 29)).alloc (.cells #[.int .i64 p.x, .int .i64 p.y, .int .i64 p.e] 26)).heap.size = w.heap.size + 2 from by simp] at hxq
  replace h := Below.step h hA
  replace hxc := hxc.kept hA
  replace hxp := hxp.kept hA
  clear hA
  have hA := below_alloc1 (((w.alloc (.cells #[.int .i64 a, .int .i64 b] 29)).alloc (.cells #[.int .i64 p.x, .int .i64 p.y, .int .i64 p.e] 26)).alloc (.cells #[.int .i64 q.x, .int .i64 q.y, .int .i64 q.e] 26)) (.cells #[.int .i64 0, .int .i64 0, .int .i64 0] 26)
  have hxr := Box.new (((w.alloc (.cells #[.int .i64 a, .int .i64 b] 29)).alloc (.cells #[.int .i64 p.x, .int .i64 p.y, .int .i64 p.e] 26)).alloc (.cells #[.int .i64 q.x, .int .i64 q.y, .int .i64 q.e] 26)) 26 #[.int .i64 0, .int .i64 0, .int .i64 0]
  rw [show (((w.alloc (.cells #[.int .i64 a, .int .i64 b] 29)).alloc (.cells #[.int .i64 p.x, .int .i64 p.y, .int .i64 p.e] 26)).alloc (.cells #[.int .i64 q.x, .int .i64 q.y, .int .i64 q.e] 26)).heap.size = w.heap.size + 3 from by simp] at hxr
  replace h := Below.step h hA
  replace hxc := hxc.kept hA
  replace hxp := hxp.kept hA
  replace hxq := hxq.kept hA
  clear hA
  obtain ⟨kc0, kc1⟩ := hxc.two
  have lc := hxc.lt
  obtain ⟨kp0, kp1, kp2⟩ := hxp.three
  have lp := hxp.lt
  obtain ⟨kq0, kq1, kq2⟩ := hxq.three
  have lq := hxq.lt
  obtain ⟨kr0, kr1, kr2⟩ := hxr.three
  have lr := hxr.lt
  replace hL := hL.kept h
  go_enter Tryd.func13, Tryd.ntmps13
  go_wp2_with fail
  refine (cp.out _).mono ?_
  rintro e w1 ⟨rfl, hb⟩
  replace h := Below.step h hb
  replace hxc := hxc.kept hb
  replace hxp := hxp.kept hb
  replace hxq := hxq.kept hb
  replace hxr := hxr.kept hb
  replace hL := hL.kept hb
  clear hb kc0 kc1 lc kp0 kp1 kp2 lp kq0 kq1 kq2 lq kr0 kr1 kr2 lr
  obtain ⟨kc0, kc1⟩ := hxc.two
  have lc := hxc.lt
  obtain ⟨kp0, kp1, kp2⟩ := hxp.three
  have lp := hxp.lt
  obtain ⟨kq0, kq1, kq2⟩ := hxq.three
  have lq := hxq.lt
  obtain ⟨kr0, kr1, kr2⟩ := hxr.three
  have lr := hxr.lt
  go_wp2_with fail
  refine (cq.out _).mono ?_
  rintro e w2 ⟨rfl, hb⟩
  replace h := Below.step h hb
  replace hxc := hxc.kept hb
  replace hxp := hxp.kept hb
  replace hxq := hxq.kept hb
  replace hxr := hxr.kept hb
  replace hL := hL.kept hb
  clear hb kc0 kc1 lc kp0 kp1 kp2 lp kq0 kq1 kq2 lq kr0 kr1 kr2 lr
  obtain ⟨kc0, kc1⟩ := hxc.two
  have lc := hxc.lt
  obtain ⟨kp0, kp1, kp2⟩ := hxp.three
  have lp := hxp.lt
  obtain ⟨kq0, kq1, kq2⟩ := hxq.three
  have lq := hxq.lt
  obtain ⟨kr0, kr1, kr2⟩ := hxr.three
  have lr := hxr.lt
  go_wp2_with fail
  refine (cip.out _).mono ?_
  rintro e w3 ⟨rfl, hb⟩
  replace h := Below.step h hb
  replace hxc := hxc.kept hb
  replace hxp := hxp.kept hb
  replace hxq := hxq.kept hb
  replace hxr := hxr.kept hb
  replace hL := hL.kept hb
  clear hb kc0 kc1 lc kp0 kp1 kp2 lp kq0 kq1 kq2 lq kr0 kr1 kr2 lr
  obtain ⟨kc0, kc1⟩ := hxc.two
  have lc := hxc.lt
  obtain ⟨kp0, kp1, kp2⟩ := hxp.three
  have lp := hxp.lt
  obtain ⟨kq0, kq1, kq2⟩ := hxq.three
  have lq := hxq.lt
  obtain ⟨kr0, kr1, kr2⟩ := hxr.three
  have lr := hxr.lt
  go_wp2_with fail
  refine (ciq.out _).mono ?_
  rintro e w4 ⟨rfl, hb⟩
  replace h := Below.step h hb
  replace hxc := hxc.kept hb
  replace hxp := hxp.kept hb
  replace hxq := hxq.kept hb
  replace hxr := hxr.kept hb
  replace hL := hL.kept hb
  clear hb kc0 kc1 lc kp0 kp1 kp2 lp kq0 kq1 kq2 lq kr0 kr1 kr2 lr
  obtain ⟨kc0, kc1⟩ := hxc.two
  have lc := hxc.lt
  obtain ⟨kp0, kp1, kp2⟩ := hxp.three
  have lp := hxp.lt
  obtain ⟨kq0, kq1, kq2⟩ := hxq.three
  have lq := hxq.lt
  obtain ⟨kr0, kr1, kr2⟩ := hxr.three
  have lr := hxr.lt
  go_upto_region 7 with fail
  have KM : ∀ (W : World), Below w4.heap.size w4 W → (W.cell? ⟨w.heap.size, 0, none⟩ = some (.int .i64 a) ∧ W.cell? ⟨w.heap.size, 1, none⟩ = some (.int .i64 b) ∧ W.cell? ⟨(w.heap.size + 1), 0, none⟩ = some (.int .i64 p.x) ∧ W.cell? ⟨(w.heap.size + 1), 1, none⟩ = some (.int .i64 p.y) ∧ W.cell? ⟨(w.heap.size + 1), 2, none⟩ = some (.int .i64 p.e) ∧ W.cell? ⟨(w.heap.size + 2), 0, none⟩ = some (.int .i64 q.x) ∧ W.cell? ⟨(w.heap.size + 2), 1, none⟩ = some (.int .i64 q.y) ∧ W.cell? ⟨(w.heap.size + 2), 2, none⟩ = some (.int .i64 q.e) ∧ Below w4.heap.size w4 W) := fun W hW => ⟨(hxc.kept hW).two.1, (hxc.kept hW).two.2, (hxp.kept hW).three.1, (hxp.kept hW).three.2.1, (hxp.kept hW).three.2.2, (hxq.kept hW).three.1, (hxq.kept hW).three.2.1, (hxq.kept hW).three.2.2, hW⟩
  have KC : ∀ (W W' : World), Below W.heap.size W W' → (W.cell? ⟨w.heap.size, 0, none⟩ = some (.int .i64 a) ∧ W.cell? ⟨w.heap.size, 1, none⟩ = some (.int .i64 b) ∧ W.cell? ⟨(w.heap.size + 1), 0, none⟩ = some (.int .i64 p.x) ∧ W.cell? ⟨(w.heap.size + 1), 1, none⟩ = some (.int .i64 p.y) ∧ W.cell? ⟨(w.heap.size + 1), 2, none⟩ = some (.int .i64 p.e) ∧ W.cell? ⟨(w.heap.size + 2), 0, none⟩ = some (.int .i64 q.x) ∧ W.cell? ⟨(w.heap.size + 2), 1, none⟩ = some (.int .i64 q.y) ∧ W.cell? ⟨(w.heap.size + 2), 2, none⟩ = some (.int .i64 q.e) ∧ Below w4.heap.size w4 W) → (W'.cell? ⟨w.heap.size, 0, none⟩ = some (.int .i64 a) ∧ W'.cell? ⟨w.heap.size, 1, none⟩ = some (.int .i64 b) ∧ W'.cell? ⟨(w.heap.size + 1), 0, none⟩ = some (.int .i64 p.x) ∧ W'.cell? ⟨(w.heap.size + 1), 1, none⟩ = some (.int .i64 p.y) ∧ W'.cell? ⟨(w.heap.size + 1), 2, none⟩ = some (.int .i64 p.e) ∧ W'.cell? ⟨(w.heap.size + 2), 0, none⟩ = some (.int .i64 q.x) ∧ W'.cell? ⟨(w.heap.size + 2), 1, none⟩ = some (.int .i64 q.y) ∧ W'.cell? ⟨(w.heap.size + 2), 2, none⟩ = some (.int .i64 q.e) ∧ Below w4.heap.size w4 W') := fun W W' hb ⟨_, _, _, _, _, _, _, _, hW⟩ => KM _ (Below.step hW hb)
  have KA : ∀ (W : World) (o : Obj), (W.cell? ⟨w.heap.size, 0, none⟩ = some (.int .i64 a) ∧ W.cell? ⟨w.heap.size, 1, none⟩ = some (.int .i64 b) ∧ W.cell? ⟨(w.heap.size + 1), 0, none⟩ = some (.int .i64 p.x) ∧ W.cell? ⟨(w.heap.size + 1), 1, none⟩ = some (.int .i64 p.y) ∧ W.cell? ⟨(w.heap.size + 1), 2, none⟩ = some (.int .i64 p.e) ∧ W.cell? ⟨(w.heap.size + 2), 0, none⟩ = some (.int .i64 q.x) ∧ W.cell? ⟨(w.heap.size + 2), 1, none⟩ = some (.int .i64 q.y) ∧ W.cell? ⟨(w.heap.size + 2), 2, none⟩ = some (.int .i64 q.e) ∧ Below w4.heap.size w4 W) → ((W.alloc o).cell? ⟨w.heap.size, 0, none⟩ = some (.int .i64 a) ∧ (W.alloc o).cell? ⟨w.heap.size, 1, none⟩ = some (.int .i64 b) ∧ (W.alloc o).cell? ⟨(w.heap.size + 1), 0, none⟩ = some (.int .i64 p.x) ∧ (W.alloc o).cell? ⟨(w.heap.size + 1), 1, none⟩ = some (.int .i64 p.y) ∧ (W.alloc o).cell? ⟨(w.heap.size + 1), 2, none⟩ = some (.int .i64 p.e) ∧ (W.alloc o).cell? ⟨(w.heap.size + 2), 0, none⟩ = some (.int .i64 q.x) ∧ (W.alloc o).cell? ⟨(w.heap.size + 2), 1, none⟩ = some (.int .i64 q.y) ∧ (W.alloc o).cell? ⟨(w.heap.size + 2), 2, none⟩ = some (.int .i64 q.e) ∧ Below w4.heap.size w4 (W.alloc o)) := fun W o ⟨_, _, _, _, _, _, _, _, hW⟩ => KM _ (Below.step hW (below_alloc1 _ _))
  have KD : ∀ (W : World), (W.cell? ⟨w.heap.size, 0, none⟩ = some (.int .i64 a) ∧ W.cell? ⟨w.heap.size, 1, none⟩ = some (.int .i64 b) ∧ W.cell? ⟨(w.heap.size + 1), 0, none⟩ = some (.int .i64 p.x) ∧ W.cell? ⟨(w.heap.size + 1), 1, none⟩ = some (.int .i64 p.y) ∧ W.cell? ⟨(w.heap.size + 1), 2, none⟩ = some (.int .i64 p.e) ∧ W.cell? ⟨(w.heap.size + 2), 0, none⟩ = some (.int .i64 q.x) ∧ W.cell? ⟨(w.heap.size + 2), 1, none⟩ = some (.int .i64 q.y) ∧ W.cell? ⟨(w.heap.size + 2), 2, none⟩ = some (.int .i64 q.e) ∧ Below w4.heap.size w4 W) → (W.drew.cell? ⟨w.heap.size, 0, none⟩ = some (.int .i64 a) ∧ W.drew.cell? ⟨w.heap.size, 1, none⟩ = some (.int .i64 b) ∧ W.drew.cell? ⟨(w.heap.size + 1), 0, none⟩ = some (.int .i64 p.x) ∧ W.drew.cell? ⟨(w.heap.size + 1), 1, none⟩ = some (.int .i64 p.y) ∧ W.drew.cell? ⟨(w.heap.size + 1), 2, none⟩ = some (.int .i64 p.e) ∧ W.drew.cell? ⟨(w.heap.size + 2), 0, none⟩ = some (.int .i64 q.x) ∧ W.drew.cell? ⟨(w.heap.size + 2), 1, none⟩ = some (.int .i64 q.y) ∧ W.drew.cell? ⟨(w.heap.size + 2), 2, none⟩ = some (.int .i64 q.e) ∧ Below w4.heap.size w4 W.drew) := fun W ⟨_, _, _, _, _, _, _, _, hW⟩ => KM _ (Below.drewN' hW 1)
  have KB : ∀ (W : World), (W.cell? ⟨w.heap.size, 0, none⟩ = some (.int .i64 a) ∧ W.cell? ⟨w.heap.size, 1, none⟩ = some (.int .i64 b) ∧ W.cell? ⟨(w.heap.size + 1), 0, none⟩ = some (.int .i64 p.x) ∧ W.cell? ⟨(w.heap.size + 1), 1, none⟩ = some (.int .i64 p.y) ∧ W.cell? ⟨(w.heap.size + 1), 2, none⟩ = some (.int .i64 p.e) ∧ W.cell? ⟨(w.heap.size + 2), 0, none⟩ = some (.int .i64 q.x) ∧ W.cell? ⟨(w.heap.size + 2), 1, none⟩ = some (.int .i64 q.y) ∧ W.cell? ⟨(w.heap.size + 2), 2, none⟩ = some (.int .i64 q.e) ∧ Below w4.heap.size w4 W) → Below w4.heap.size w4 W := fun W ⟨_, _, _, _, _, _, _, _, hW⟩ => hW
  have KL : ∀ (W : World), (W.cell? ⟨w.heap.size, 0, none⟩ = some (.int .i64 a) ∧ W.cell? ⟨w.heap.size, 1, none⟩ = some (.int .i64 b) ∧ W.cell? ⟨(w.heap.size + 1), 0, none⟩ = some (.int .i64 p.x) ∧ W.cell? ⟨(w.heap.size + 1), 1, none⟩ = some (.int .i64 p.y) ∧ W.cell? ⟨(w.heap.size + 1), 2, none⟩ = some (.int .i64 p.e) ∧ W.cell? ⟨(w.heap.size + 2), 0, none⟩ = some (.int .i64 q.x) ∧ W.cell? ⟨(w.heap.size + 2), 1, none⟩ = some (.int .i64 q.y) ∧ W.cell? ⟨(w.heap.size + 2), 2, none⟩ = some (.int .i64 q.e) ∧ Below w4.heap.size w4 W) → Lim W := fun W ⟨_, _, _, _, _, _, _, _, hW⟩ => hL.kept hW
  have KM0 := KM w4.drew ⟨rfl, rfl, rfl, Nat.le_refl _, fun _ _ => rfl⟩
  have KM00 := KM _ (Below.refl _ _)
  replace KC := Lib.hid KC
  replace KA := Lib.hid KA
  replace KD := Lib.hid KD
  replace KB := Lib.hid KB
  replace KL := Lib.hid KL
  clear KM kc0 kc1 lc kp0 kp1 kp2 lp kq0 kq1 kq2 lq kr0 kr1 kr2 lr
  go_cut [30] (fun s30 wx => s30 = .bool false ∧ Below w4.heap.size w4 wx)
  case first =>
    go_region_held3 (fun w' => w'.cell? ⟨w.heap.size, 0, none⟩ = some (.int .i64 a) ∧ w'.cell? ⟨w.heap.size, 1, none⟩ = some (.int .i64 b) ∧ w'.cell? ⟨(w.heap.size + 1), 0, none⟩ = some (.int .i64 p.x) ∧ w'.cell? ⟨(w.heap.size + 1), 1, none⟩ = some (.int .i64 p.y) ∧ w'.cell? ⟨(w.heap.size + 1), 2, none⟩ = some (.int .i64 p.e) ∧ w'.cell? ⟨(w.heap.size + 2), 0, none⟩ = some (.int .i64 q.x) ∧ w'.cell? ⟨(w.heap.size + 2), 1, none⟩ = some (.int .i64 q.y) ∧ w'.cell? ⟨(w.heap.size + 2), 2, none⟩ = some (.int .i64 q.e) ∧ Below w4.heap.size w4 w') ((first | (with_reducible assumption) | ((with_reducible refine KD.out _ ?_); (with_reducible assumption)) | ((with_reducible refine KA.out _ _ ?_); (first | (with_reducible assumption) | ((with_reducible refine KD.out _ ?_); (with_reducible assumption)))) | ((with_reducible refine KC.out _ _ ?_ ?_); (with_reducible assumption); (with_reducible assumption))))
      (first
        | (go_at_call 35; (with_reducible refine (co.out _).mono ?_); rintro e wC0 ⟨rfl, hbC⟩; have hS0 : wC0.cell? ⟨w.heap.size, 0, none⟩ = some (.int .i64 a) ∧ wC0.cell? ⟨w.heap.size, 1, none⟩ = some (.int .i64 b) ∧ wC0.cell? ⟨(w.heap.size + 1), 0, none⟩ = some (.int .i64 p.x) ∧ wC0.cell? ⟨(w.heap.size + 1), 1, none⟩ = some (.int .i64 p.y) ∧ wC0.cell? ⟨(w.heap.size + 1), 2, none⟩ = some (.int .i64 p.e) ∧ wC0.cell? ⟨(w.heap.size + 2), 0, none⟩ = some (.int .i64 q.x) ∧ wC0.cell? ⟨(w.heap.size + 2), 1, none⟩ = some (.int .i64 q.y) ∧ wC0.cell? ⟨(w.heap.size + 2), 2, none⟩ = some (.int .i64 q.e) ∧ Below w4.heap.size w4 wC0 := KC.out _ _ hbC (by assumption)))
    all_goals (go_wp2_with fail; go_meet)
    all_goals refine ⟨(by first | with_reducible rfl | rw [e7]), KB.out _ ?_⟩
    all_goals (first | (with_reducible assumption) | ((with_reducible refine KD.out _ ?_); (with_reducible assumption)))
  case rest =>
  obtain ⟨rfl, hb⟩ := hcut
  clear KM0 KM00 KC KA KD KB KL
  replace h := Below.step h hb
  replace hxc := hxc.kept hb
  replace hxp := hxp.kept hb
  replace hxq := hxq.kept hb
  replace hxr := hxr.kept hb
  replace hL := hL.kept hb
  clear hb
  obtain ⟨kc0, kc1⟩ := hxc.two
  have lc := hxc.lt
  obtain ⟨kp0, kp1, kp2⟩ := hxp.three
  have lp := hxp.lt
  obtain ⟨kq0, kq1, kq2⟩ := hxq.three
  have lq := hxq.lt
  obtain ⟨kr0, kr1, kr2⟩ := hxr.three
  have lr := hxr.lt
  go_wp2_with fail
  refine (c1.out _ hL).mono ?_
  rintro e w5 ⟨rfl, hb⟩
  replace h := Below.step h hb
  replace hxc := hxc.kept hb
  replace hxp := hxp.kept hb
  replace hxq := hxq.kept hb
  replace hxr := hxr.kept hb
  replace hL := hL.kept hb
  clear hb kc0 kc1 lc kp0 kp1 kp2 lp kq0 kq1 kq2 lq kr0 kr1 kr2 lr
  obtain ⟨kc0, kc1⟩ := hxc.two
  have lc := hxc.lt
  obtain ⟨kp0, kp1, kp2⟩ := hxp.three
  have lp := hxp.lt
  obtain ⟨kq0, kq1, kq2⟩ := hxq.three
  have lq := hxq.lt
  obtain ⟨kr0, kr1, kr2⟩ := hxr.three
  have lr := hxr.lt
  go_wp2_with fail
  have hA := below_alloc1 w5 (.cells #[.int .i64 r, .int .i64 s] 49)
  have hxs := Box.new w5 49 #[.int .i64 r, .int .i64 s]
  replace h := Below.step h hA
  replace hxc := hxc.kept hA
  replace hxp := hxp.kept hA
  replace hxq := hxq.kept hA
  replace hxr := hxr.kept hA
  replace hL := hL.kept hA
  clear hA kc0 kc1 lc kp0 kp1 kp2 lp kq0 kq1 kq2 lq kr0 kr1 kr2 lr
  generalize w5.alloc (.cells #[.int .i64 r, .int .i64 s] 49) = w6 at *
  generalize w5.heap.size = gs at hxs ⊢
  obtain ⟨kc0, kc1⟩ := hxc.two
  have lc := hxc.lt
  obtain ⟨kp0, kp1, kp2⟩ := hxp.three
  have lp := hxp.lt
  obtain ⟨kq0, kq1, kq2⟩ := hxq.three
  have lq := hxq.lt
  obtain ⟨kr0, kr1, kr2⟩ := hxr.three
  have lr := hxr.lt
  obtain ⟨ks0, ks1⟩ := hxs.two
  have ls := hxs.lt
  refine (c2.out _ hL).mono ?_
  rintro e w7 ⟨rfl, hb⟩
  replace h := Below.step h hb
  replace hxc := hxc.kept hb
  replace hxp := hxp.kept hb
  replace hxq := hxq.kept hb
  replace hxr := hxr.kept hb
  replace hxs := hxs.kept hb
  replace hL := hL.kept hb
  clear hb kc0 kc1 lc kp0 kp1 kp2 lp kq0 kq1 kq2 lq kr0 kr1 kr2 lr ks0 ks1 ls
  obtain ⟨kc0, kc1⟩ := hxc.two
  have lc := hxc.lt
  obtain ⟨kp0, kp1, kp2⟩ := hxp.three
  have lp := hxp.lt
  obtain ⟨kq0, kq1, kq2⟩ := hxq.three
  have lq := hxq.lt
  obtain ⟨kr0, kr1, kr2⟩ := hxr.three
  have lr := hxr.lt
  obtain ⟨ks0, ks1⟩ := hxs.two
  have ls := hxs.lt
  have fr0 := hxr.free 0
  have fr1 := hxr.free 1
  have fr2 := hxr.free 2
  obtain ⟨sr0, sr1, sr2⟩ := (((hxr.set 0 (.int .i64 x)).set 1 (.int .i64 y)).set 2 (.int .i64 u)).three
  go_wp2_with fail
  refine bodyPost_ret (v := .tuple #[.agg #[.int .i64 x, .int .i64 y, .int .i64 u], .bool ok]) (by simp [results, Tryd.results13, go_sem, sr0, sr1, sr2]) (by rfl) ⟨by rfl, ?_⟩
  exact below_sets3 h (by omega) _ _ _


theorem PtG.z {a b : Int} {p : P3} (g : PtG a b p) (h : p ≠ .zero) : p.e ≠ 0 := fun k => h (g.2.inf k)
theorem addS_on {a b : Int} {p q : P3} (w : World) (g : PtG a b p) (g' : PtG a b q) : Calls Tryd.prog 10 #[.agg #[.int .i64 a, .int .i64 b], .agg #[.int .i64 p.x, .int .i64 p.y, .int .i64 p.e], .agg #[.int .i64 q.x, .int .i64 q.y, .int .i64 q.e]] w (GivesO w (addP a p q)) :=
  addS_c a b p q w g g' _ _ _ _ fun W => ptAddS_any p q W ⟨g.1.1, g.1.2.1⟩ g.2 g'.2
theorem addI_on {a b : Int} {p q : P3} (w : World) (hL : Lim w) (g : PtG a b p) (g' : PtG a b q) : Calls Tryd.prog 13 #[.agg #[.int .i64 a, .int .i64 b], .agg #[.int .i64 p.x, .int .i64 p.y, .int .i64 p.e], .agg #[.int .i64 q.x, .int .i64 q.y, .int .i64 q.e]] w (GivesO w (addP a p q)) := by
  unfold addP
  by_cases hz : p = .zero
  · subst hz; rw [if_pos (show P3.zero.e = 0 from rfl)]; exact addI_p0 a b q w g g'
  have hp := g.z hz
  rw [if_neg hp]
  by_cases hz' : q = .zero
  · subst hz'; rw [if_pos (show P3.zero.e = 0 from rfl)]; exact addI_q0 a b p w g hz g'
  have hq := g'.z hz'
  rw [if_neg hq]
  have kp := g.2.fin hp
  have kq := g'.2.fin hq
  by_cases hv : q = p.neg
  · rw [if_pos ((sl_zero kp kq).2 hv)]; exact addI_v a b p q w g hz g' hz' hv
  have hF : slF p q ≠ 0 := fun k => hv ((sl_zero kp kq).1 k)
  rw [if_neg hF]
  have c1 := fun W (hL : Lim W) => slopeI_on W hL g g'
  have hd := slD_pos (a := a) hF
  cases hb : lowB (slU a p q) (slF p q)
  · rw [if_neg fun k => by
      have h2 := (lowB_bad hF hb).2
      have := k.gd; have := k.gn
      unfold slD slN at *
      omega]
    rw [hb] at c1
    exact addI_no a b p q w hL g hz g' hz' hv _ _ c1
  · have e1 : lowRP (slU a p q) (slF p q) = slN a p q := by unfold lowRP slN; rw [hb]; rfl
    have e2 : lowRQ (slU a p q) (slF p q) = slD a p q := by unfold lowRQ slD; rw [hb]; rfl
    rw [hb, e1, e2] at c1
    have bd := slU_bd g.1.1 g.2.bd g'.2.bd
    have hUb : -4000000000000 ≤ slN a p q ∧ slN a p q ≤ 4000000000000 := by
      have := lowP_le (n := slU a p q) (d := slF p q)
      unfold slN; omega
    exact addI_yes a b p q w hL g hz g' hz' hv _ _ c1 _ _ _ _ fun W hL => line_any W hL ⟨g.1.1, g.1.2.1⟩ kp kq hF sl_cross hd hUb
theorem lawAdd_two {a b : Int} {p q : P3} : PtG a b p ∧ PtG a b q ∨ ¬ PtG a b p ∨ (PtG a b p ∧ ¬ PtG a b q) := by
  by_cases g : PtG a b p
  · by_cases g' : PtG a b q
    · exact .inl ⟨g, g'⟩
    · exact .inr (.inr ⟨g, g'⟩)
  · exact .inr (.inl g)
end Go.Proofs.YtabcnkobojkdhaaDoor
