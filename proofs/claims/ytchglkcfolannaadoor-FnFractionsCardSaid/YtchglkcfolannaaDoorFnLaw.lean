/- FnFractions: the law's walk over what its calls hand back (written by wip/gen/fnfr.py). -/
import Derived.Test.YtchglkcfolannaaDoorDrawSum
import Derived.Test.YtchglkcfolannaaDoorFnOps
import Derived.Test.YtchglkcfolannaaDoorFnAbs
import Derived.Deep.RegionHeld3
import Derived.Deep.DeepCutAuto
namespace Go.Proofs.YtchglkcfolannaaDoor
open Go.RowKit Go.Joins

/-- What the operations on two fractions hand back, and what is had of it. -/
structure OpsOk (p0 q0 p1 q1 sp sq : Int) (ok : Bool) (dp dq : Int) (one : Bool) (pp pq : Int) (three : Bool) (qp qq : Int) (five l seven : Bool) : Prop where
  sI : ∀ W, Lim W → Calls Tryd.prog 5 #[.agg #[.int .i64 p0, .int .i64 q0], .agg #[.int .i64 p1, .int .i64 q1]] W (GivesFB W sp sq ok)
  sS : ∀ W, Calls Tryd.prog 6 #[.agg #[.int .i64 p0, .int .i64 q0], .agg #[.int .i64 p1, .int .i64 q1]] W (GivesFB W sp sq ok)
  dI : ∀ W, Lim W → Calls Tryd.prog 7 #[.agg #[.int .i64 p0, .int .i64 q0], .agg #[.int .i64 p1, .int .i64 q1]] W (GivesFB W dp dq one)
  dS : ∀ W, Calls Tryd.prog 8 #[.agg #[.int .i64 p0, .int .i64 q0], .agg #[.int .i64 p1, .int .i64 q1]] W (GivesFB W dp dq one)
  pI : ∀ W, Lim W → Calls Tryd.prog 9 #[.agg #[.int .i64 p0, .int .i64 q0], .agg #[.int .i64 p1, .int .i64 q1]] W (GivesFB W pp pq three)
  pS : ∀ W, Calls Tryd.prog 10 #[.agg #[.int .i64 p0, .int .i64 q0], .agg #[.int .i64 p1, .int .i64 q1]] W (GivesFB W pp pq three)
  qI : ∀ W, Lim W → Calls Tryd.prog 11 #[.agg #[.int .i64 p0, .int .i64 q0], .agg #[.int .i64 p1, .int .i64 q1]] W (GivesFB W qp qq five)
  qS : ∀ W, Calls Tryd.prog 12 #[.agg #[.int .i64 p0, .int .i64 q0], .agg #[.int .i64 p1, .int .i64 q1]] W (GivesFB W qp qq five)
  lI : ∀ W, Lim W → Calls Tryd.prog 13 #[.agg #[.int .i64 p0, .int .i64 q0], .agg #[.int .i64 p1, .int .i64 q1]] W (GivesBB W l seven)
  lS : ∀ W, Calls Tryd.prog 14 #[.agg #[.int .i64 p0, .int .i64 q0], .agg #[.int .i64 p1, .int .i64 q1]] W (GivesBB W l seven)
  back : ok = true → ∀ W, Lim W → Calls Tryd.prog 7 #[.agg #[.int .i64 sp, .int .i64 sq], .agg #[.int .i64 p1, .int .i64 q1]] W (GivesFB W p0 q0 true)
  other : ok = true → ∀ W, Lim W → Calls Tryd.prog 5 #[.agg #[.int .i64 p1, .int .i64 q1], .agg #[.int .i64 p0, .int .i64 q0]] W (GivesFB W sp sq true)
  good : ok = true → ∀ W, Lim W → Calls Tryd.prog 18 #[.agg #[.int .i64 sp, .int .i64 sq]] W (GivesB W true)
  times : five = true → ∀ W, Lim W → Calls Tryd.prog 9 #[.agg #[.int .i64 qp, .int .i64 qq], .agg #[.int .i64 p1, .int .i64 q1]] W (GivesFB W p0 q0 true)
  sign : seven = true → one = true → l = decide (dp < 0)
/-- What FractionOf hands back, and what is had of it. -/
structure FracOk (z0 z1 fp fq : Int) (nine : Bool) (G aP aN aD : Nat) : Prop where
  fI : ∀ W, Lim W → Calls Tryd.prog 16 #[.int .i64 z0, .int .i64 z1] W (GivesFB W fp fq nine)
  fS : ∀ W, Calls Tryd.prog 17 #[.int .i64 z0, .int .i64 z1] W (GivesFB W fp fq nine)
  good : nine = true → ∀ W, Lim W → Calls Tryd.prog 18 #[.agg #[.int .i64 fp, .int .i64 fq]] W (GivesB W true)
  gcd : nine = true → ∀ W, Calls Tryd.prog 19 #[.int .i64 z0, .int .i64 z1] W fun e w' => e = .returned (.int .i64 (G : Int)) ∧ W = w'
  absP : nine = true → ∀ W, Calls Tryd.prog 20 #[.int .i64 fp] W fun e w' => e = .returned (.int .i64 (aP : Int)) ∧ W = w'
  absN : nine = true → ∀ W, Calls Tryd.prog 20 #[.int .i64 z0] W fun e w' => e = .returned (.int .i64 (aN : Int)) ∧ W = w'
  absD : nine = true → ∀ W, Calls Tryd.prog 20 #[.int .i64 z1] W fun e w' => e = .returned (.int .i64 (aD : Int)) ∧ W = w'
  eqP : nine = true → (aP : Int) * G = aN
  eqQ : nine = true → fq * G = aD
  leN : nine = true → aN ≤ 1000000000000000000
  leD : nine = true → aD ≤ 1000000000000000000

set_option maxHeartbeats 16000000 in
set_option maxRecDepth 100000 in
theorem fnFractions_walk (A A' : Option Addr) (n c n' c' : Nat) (w : World) (hL : Lim w) (hn : n ≤ 9223372036854775807) (hn' : n' ≤ 9223372036854775807) (hr : RdB w w.heap.size A n) (hr' : RdB w w.heap.size A' n') (hs : ¬ (1048576 : Int) < wrap64 ((n : Int) + n'))
    (hops : ∀ p0 q0 p1 q1 : Int, (-9223372036854775808 ≤ p0 ∧ p0 ≤ 9223372036854775807) → (-9223372036854775808 ≤ q0 ∧ q0 ≤ 9223372036854775807) → (-9223372036854775808 ≤ p1 ∧ p1 ≤ 9223372036854775807) → (-9223372036854775808 ≤ q1 ∧ q1 ≤ 9223372036854775807) →
      ∃ sp sq ok dp dq one pp pq three qp qq five l seven, OpsOk p0 q0 p1 q1 sp sq ok dp dq one pp pq three qp qq five l seven)
    (hfrac : ∀ z0 z1 : Int, (-9223372036854775808 ≤ z0 ∧ z0 ≤ 9223372036854775807) → (-9223372036854775808 ≤ z1 ∧ z1 ≤ 9223372036854775807) → ∃ fp fq nine G aP aN aD, FracOk z0 z1 fp fq nine G aP aN aD) :
    Calls Tryd.prog 3 #[.slice A n c, .slice A' n' c'] w fun e w' => e = .returned (.bool true) ∧ Below w.heap.size w w' := by
  have h := Below.refl w.heap.size w
  replace hops := Lib.hid hops
  replace hfrac := Lib.hid hfrac
  replace hn := Lib.hid hn
  replace hn' := Lib.hid hn'
  obtain ⟨s, hsw⟩ : ∃ s, s = wrap64 ((n : Int) + n') := ⟨_, rfl⟩
  rw [← hsw] at hs
  have hsw' : wrap64 ((n : Int) + n') = s := hsw.symm
  clear hsw
  go_enter Tryd.func3, Tryd.ntmps3
  go_wp2_with fail
  refine (drawSumOf_any A n c _ hn.out hr).mono ?_
  rintro e w1 ⟨p0, q0, p1, q1, hp0, hq0, hp1, hq1, rfl, hb⟩
  obtain ⟨sp, sq, ok, dp, dq, one, pp, pq, three, qp, qq, five, l, seven, H⟩ := hops.out p0 q0 p1 q1 hp0 hq0 hp1 hq1
  replace H := Lib.hid H
  replace h := Below.step h hb
  clear hb hr hops hp0 hq0 hp1 hq1
  go_wp2_with fail
  have hxa := Box.new w1 24 #[.int .i64 p0, .int .i64 q0]
  have hA1 := below_alloc1 w1 (.cells #[.int .i64 p0, .int .i64 q0] 24)
  have hxb := Box.new (w1.alloc (.cells #[.int .i64 p0, .int .i64 q0] 24)) 24 #[.int .i64 p1, .int .i64 q1]
  have hA2 := below_alloc1 (w1.alloc (.cells #[.int .i64 p0, .int .i64 q0] 24)) (.cells #[.int .i64 p1, .int .i64 q1] 24)
  rw [show (w1.alloc (.cells #[.int .i64 p0, .int .i64 q0] 24)).heap.size = w1.heap.size + 1 from by simp] at hxb
  replace h := Below.step (Below.step h hA1) hA2
  replace hxa := hxa.kept hA2
  clear hA1 hA2
  generalize (w1.alloc (.cells #[.int .i64 p0, .int .i64 q0] 24)).alloc (.cells #[.int .i64 p1, .int .i64 q1] 24) = w3 at *
  generalize w1.heap.size + 1 = gb at hxb ⊢
  generalize w1.heap.size = ga at hxa ⊢
  refine (H.out.sI _ (hL.kept h)).mono ?_
  rintro e w4 ⟨rfl, hb⟩
  replace h := Below.step h hb
  replace hxa := hxa.kept hb
  replace hxb := hxb.kept hb
  clear hb
  obtain ⟨kaa, kba⟩ := hxa.two
  have kla := hxa.lt
  obtain ⟨kab, kbb⟩ := hxb.two
  have klb := hxb.lt
  go_wp2_with fail
  have hA := below_alloc1 w4 (.cells #[.int .i64 sp, .int .i64 sq] 24)
  have hxs := Box.new w4 24 #[.int .i64 sp, .int .i64 sq]
  replace h := Below.step h hA
  replace hxa := hxa.kept hA
  replace hxb := hxb.kept hA
  clear hA kaa kba kla kab kbb klb
  generalize w4.alloc (.cells #[.int .i64 sp, .int .i64 sq] 24) = w5 at *
  generalize w4.heap.size = gs at hxs ⊢
  refine (H.out.sS _).mono ?_
  rintro e w6 ⟨rfl, hb⟩
  replace h := Below.step h hb
  replace hxa := hxa.kept hb
  replace hxb := hxb.kept hb
  replace hxs := hxs.kept hb
  clear hb
  obtain ⟨kaa, kba⟩ := hxa.two
  have kla := hxa.lt
  obtain ⟨kab, kbb⟩ := hxb.two
  have klb := hxb.lt
  go_wp2_with fail
  have hA := below_alloc1 w6 (.cells #[.int .i64 sp, .int .i64 sq] 24)
  have hxu := Box.new w6 24 #[.int .i64 sp, .int .i64 sq]
  replace h := Below.step h hA
  replace hxa := hxa.kept hA
  replace hxb := hxb.kept hA
  replace hxs := hxs.kept hA
  clear hA kaa kba kla kab kbb klb
  generalize w6.alloc (.cells #[.int .i64 sp, .int .i64 sq] 24) = w7 at *
  generalize w6.heap.size = gu at hxu ⊢
  refine (H.out.dI _ (hL.kept h)).mono ?_
  rintro e w8 ⟨rfl, hb⟩
  replace h := Below.step h hb
  replace hxa := hxa.kept hb
  replace hxb := hxb.kept hb
  replace hxs := hxs.kept hb
  replace hxu := hxu.kept hb
  clear hb
  obtain ⟨kaa, kba⟩ := hxa.two
  have kla := hxa.lt
  obtain ⟨kab, kbb⟩ := hxb.two
  have klb := hxb.lt
  go_wp2_with fail
  have hA := below_alloc1 w8 (.cells #[.int .i64 dp, .int .i64 dq] 24)
  have hxd := Box.new w8 24 #[.int .i64 dp, .int .i64 dq]
  replace h := Below.step h hA
  replace hxa := hxa.kept hA
  replace hxb := hxb.kept hA
  replace hxs := hxs.kept hA
  replace hxu := hxu.kept hA
  clear hA kaa kba kla kab kbb klb
  generalize w8.alloc (.cells #[.int .i64 dp, .int .i64 dq] 24) = w9 at *
  generalize w8.heap.size = gd at hxd ⊢
  refine (H.out.dS _).mono ?_
  rintro e w10 ⟨rfl, hb⟩
  replace h := Below.step h hb
  replace hxa := hxa.kept hb
  replace hxb := hxb.kept hb
  replace hxs := hxs.kept hb
  replace hxu := hxu.kept hb
  replace hxd := hxd.kept hb
  clear hb
  obtain ⟨kaa, kba⟩ := hxa.two
  have kla := hxa.lt
  obtain ⟨kab, kbb⟩ := hxb.two
  have klb := hxb.lt
  go_wp2_with fail
  have hA := below_alloc1 w10 (.cells #[.int .i64 dp, .int .i64 dq] 24)
  have hxv := Box.new w10 24 #[.int .i64 dp, .int .i64 dq]
  replace h := Below.step h hA
  replace hxa := hxa.kept hA
  replace hxb := hxb.kept hA
  replace hxs := hxs.kept hA
  replace hxu := hxu.kept hA
  replace hxd := hxd.kept hA
  clear hA kaa kba kla kab kbb klb
  generalize w10.alloc (.cells #[.int .i64 dp, .int .i64 dq] 24) = w11 at *
  generalize w10.heap.size = gv at hxv ⊢
  refine (H.out.pI _ (hL.kept h)).mono ?_
  rintro e w12 ⟨rfl, hb⟩
  replace h := Below.step h hb
  replace hxa := hxa.kept hb
  replace hxb := hxb.kept hb
  replace hxs := hxs.kept hb
  replace hxu := hxu.kept hb
  replace hxd := hxd.kept hb
  replace hxv := hxv.kept hb
  clear hb
  obtain ⟨kaa, kba⟩ := hxa.two
  have kla := hxa.lt
  obtain ⟨kab, kbb⟩ := hxb.two
  have klb := hxb.lt
  go_wp2_with fail
  have hA := below_alloc1 w12 (.cells #[.int .i64 pp, .int .i64 pq] 24)
  have hxp := Box.new w12 24 #[.int .i64 pp, .int .i64 pq]
  replace h := Below.step h hA
  replace hxa := hxa.kept hA
  replace hxb := hxb.kept hA
  replace hxs := hxs.kept hA
  replace hxu := hxu.kept hA
  replace hxd := hxd.kept hA
  replace hxv := hxv.kept hA
  clear hA kaa kba kla kab kbb klb
  generalize w12.alloc (.cells #[.int .i64 pp, .int .i64 pq] 24) = w13 at *
  generalize w12.heap.size = gp at hxp ⊢
  refine (H.out.pS _).mono ?_
  rintro e w14 ⟨rfl, hb⟩
  replace h := Below.step h hb
  replace hxa := hxa.kept hb
  replace hxb := hxb.kept hb
  replace hxs := hxs.kept hb
  replace hxu := hxu.kept hb
  replace hxd := hxd.kept hb
  replace hxv := hxv.kept hb
  replace hxp := hxp.kept hb
  clear hb
  obtain ⟨kaa, kba⟩ := hxa.two
  have kla := hxa.lt
  obtain ⟨kab, kbb⟩ := hxb.two
  have klb := hxb.lt
  go_wp2_with fail
  have hA := below_alloc1 w14 (.cells #[.int .i64 pp, .int .i64 pq] 24)
  have hxx := Box.new w14 24 #[.int .i64 pp, .int .i64 pq]
  replace h := Below.step h hA
  replace hxa := hxa.kept hA
  replace hxb := hxb.kept hA
  replace hxs := hxs.kept hA
  replace hxu := hxu.kept hA
  replace hxd := hxd.kept hA
  replace hxv := hxv.kept hA
  replace hxp := hxp.kept hA
  clear hA kaa kba kla kab kbb klb
  generalize w14.alloc (.cells #[.int .i64 pp, .int .i64 pq] 24) = w15 at *
  generalize w14.heap.size = gx at hxx ⊢
  refine (H.out.qI _ (hL.kept h)).mono ?_
  rintro e w16 ⟨rfl, hb⟩
  replace h := Below.step h hb
  replace hxa := hxa.kept hb
  replace hxb := hxb.kept hb
  replace hxs := hxs.kept hb
  replace hxu := hxu.kept hb
  replace hxd := hxd.kept hb
  replace hxv := hxv.kept hb
  replace hxp := hxp.kept hb
  replace hxx := hxx.kept hb
  clear hb
  obtain ⟨kaa, kba⟩ := hxa.two
  have kla := hxa.lt
  obtain ⟨kab, kbb⟩ := hxb.two
  have klb := hxb.lt
  go_wp2_with fail
  have hA := below_alloc1 w16 (.cells #[.int .i64 qp, .int .i64 qq] 24)
  have hxq := Box.new w16 24 #[.int .i64 qp, .int .i64 qq]
  replace h := Below.step h hA
  replace hxa := hxa.kept hA
  replace hxb := hxb.kept hA
  replace hxs := hxs.kept hA
  replace hxu := hxu.kept hA
  replace hxd := hxd.kept hA
  replace hxv := hxv.kept hA
  replace hxp := hxp.kept hA
  replace hxx := hxx.kept hA
  clear hA kaa kba kla kab kbb klb
  generalize w16.alloc (.cells #[.int .i64 qp, .int .i64 qq] 24) = w17 at *
  generalize w16.heap.size = gq at hxq ⊢
  refine (H.out.qS _).mono ?_
  rintro e w18 ⟨rfl, hb⟩
  replace h := Below.step h hb
  replace hxa := hxa.kept hb
  replace hxb := hxb.kept hb
  replace hxs := hxs.kept hb
  replace hxu := hxu.kept hb
  replace hxd := hxd.kept hb
  replace hxv := hxv.kept hb
  replace hxp := hxp.kept hb
  replace hxx := hxx.kept hb
  replace hxq := hxq.kept hb
  clear hb
  obtain ⟨kaa, kba⟩ := hxa.two
  have kla := hxa.lt
  obtain ⟨kab, kbb⟩ := hxb.two
  have klb := hxb.lt
  go_wp2_with fail
  have hA := below_alloc1 w18 (.cells #[.int .i64 qp, .int .i64 qq] 24)
  have hxy := Box.new w18 24 #[.int .i64 qp, .int .i64 qq]
  replace h := Below.step h hA
  replace hxa := hxa.kept hA
  replace hxb := hxb.kept hA
  replace hxs := hxs.kept hA
  replace hxu := hxu.kept hA
  replace hxd := hxd.kept hA
  replace hxv := hxv.kept hA
  replace hxp := hxp.kept hA
  replace hxx := hxx.kept hA
  replace hxq := hxq.kept hA
  clear hA kaa kba kla kab kbb klb
  generalize w18.alloc (.cells #[.int .i64 qp, .int .i64 qq] 24) = w19 at *
  generalize w18.heap.size = gy at hxy ⊢
  refine (H.out.lI _ (hL.kept h)).mono ?_
  rintro e w20 ⟨rfl, hb⟩
  replace h := Below.step h hb
  replace hxa := hxa.kept hb
  replace hxb := hxb.kept hb
  replace hxs := hxs.kept hb
  replace hxu := hxu.kept hb
  replace hxd := hxd.kept hb
  replace hxv := hxv.kept hb
  replace hxp := hxp.kept hb
  replace hxx := hxx.kept hb
  replace hxq := hxq.kept hb
  replace hxy := hxy.kept hb
  clear hb
  obtain ⟨kaa, kba⟩ := hxa.two
  have kla := hxa.lt
  obtain ⟨kab, kbb⟩ := hxb.two
  have klb := hxb.lt
  go_wp2_with fail
  refine (H.out.lS _).mono ?_
  rintro e w21 ⟨rfl, hb⟩
  replace h := Below.step h hb
  replace hxa := hxa.kept hb
  replace hxb := hxb.kept hb
  replace hxs := hxs.kept hb
  replace hxu := hxu.kept hb
  replace hxd := hxd.kept hb
  replace hxv := hxv.kept hb
  replace hxp := hxp.kept hb
  replace hxx := hxx.kept hb
  replace hxq := hxq.kept hb
  replace hxy := hxy.kept hb
  clear hb kaa kba kla kab kbb klb
  obtain ⟨kaa, kba⟩ := hxa.two
  have kla := hxa.lt
  obtain ⟨kab, kbb⟩ := hxb.two
  have klb := hxb.lt
  go_wp2_with fail
  refine (drawFractionOf_any A' n' c' _ hn'.out ((hr'.below h).more h.size)).mono ?_
  rintro e w22 ⟨z0, z1, hz0, hz1, rfl, hb⟩
  obtain ⟨fp, fq, nine, G, aP, aN, aD, K⟩ := hfrac.out z0 z1 hz0 hz1
  replace K := Lib.hid K
  replace h := Below.step h hb
  replace hxa := hxa.kept hb
  replace hxb := hxb.kept hb
  replace hxs := hxs.kept hb
  replace hxu := hxu.kept hb
  replace hxd := hxd.kept hb
  replace hxv := hxv.kept hb
  replace hxp := hxp.kept hb
  replace hxx := hxx.kept hb
  replace hxq := hxq.kept hb
  replace hxy := hxy.kept hb
  clear hb kaa kba kla kab kbb klb
  clear hr' hfrac hz0 hz1
  go_wp2_with fail
  refine (K.out.fI _ (hL.kept h)).mono ?_
  rintro e w23 ⟨rfl, hb⟩
  replace h := Below.step h hb
  replace hxa := hxa.kept hb
  replace hxb := hxb.kept hb
  replace hxs := hxs.kept hb
  replace hxu := hxu.kept hb
  replace hxd := hxd.kept hb
  replace hxv := hxv.kept hb
  replace hxp := hxp.kept hb
  replace hxx := hxx.kept hb
  replace hxq := hxq.kept hb
  replace hxy := hxy.kept hb
  clear hb
  go_wp2_with fail
  have hA := below_alloc1 w23 (.cells #[.int .i64 fp, .int .i64 fq] 24)
  have hxf := Box.new w23 24 #[.int .i64 fp, .int .i64 fq]
  replace h := Below.step h hA
  replace hxa := hxa.kept hA
  replace hxb := hxb.kept hA
  replace hxs := hxs.kept hA
  replace hxu := hxu.kept hA
  replace hxd := hxd.kept hA
  replace hxv := hxv.kept hA
  replace hxp := hxp.kept hA
  replace hxx := hxx.kept hA
  replace hxq := hxq.kept hA
  replace hxy := hxy.kept hA
  clear hA
  generalize w23.alloc (.cells #[.int .i64 fp, .int .i64 fq] 24) = w24 at *
  generalize w23.heap.size = gf at hxf ⊢
  refine (K.out.fS _).mono ?_
  rintro e w25 ⟨rfl, hb⟩
  replace h := Below.step h hb
  replace hxa := hxa.kept hb
  replace hxb := hxb.kept hb
  replace hxs := hxs.kept hb
  replace hxu := hxu.kept hb
  replace hxd := hxd.kept hb
  replace hxv := hxv.kept hb
  replace hxp := hxp.kept hb
  replace hxx := hxx.kept hb
  replace hxq := hxq.kept hb
  replace hxy := hxy.kept hb
  replace hxf := hxf.kept hb
  clear hb
  have e_ok : (ok != ok) = false := by simp
  have e_one : (one != one) = false := by simp
  have e_three : (three != three) = false := by simp
  have e_five : (five != five) = false := by simp
  have e_seven : (seven != seven) = false := by simp
  have e_l : (l != l) = false := by simp
  have e_nine : (nine != nine) = false := by simp
  have e_sp : (sp != sp) = false := by simp
  have e_sq : (sq != sq) = false := by simp
  have e_dp : (dp != dp) = false := by simp
  have e_dq : (dq != dq) = false := by simp
  have e_pp : (pp != pp) = false := by simp
  have e_pq : (pq != pq) = false := by simp
  have e_qp : (qp != qp) = false := by simp
  have e_qq : (qq != qq) = false := by simp
  have e_fp : (fp != fp) = false := by simp
  have e_fq : (fq != fq) = false := by simp
  obtain ⟨kas, kbs⟩ := hxs.two
  have kls := hxs.lt
  obtain ⟨kau, kbu⟩ := hxu.two
  have klu := hxu.lt
  obtain ⟨kad, kbd⟩ := hxd.two
  have kld := hxd.lt
  obtain ⟨kav, kbv⟩ := hxv.two
  have klv := hxv.lt
  obtain ⟨kap, kbp⟩ := hxp.two
  have klp := hxp.lt
  obtain ⟨kax, kbx⟩ := hxx.two
  have klx := hxx.lt
  obtain ⟨kaq, kbq⟩ := hxq.two
  have klq := hxq.lt
  obtain ⟨kay, kby⟩ := hxy.two
  have kly := hxy.lt
  obtain ⟨kaf, kbf⟩ := hxf.two
  have klf := hxf.lt
  go_upto_region 17 with fail
  have hA := below_alloc1 w25 (.cells #[.int .i64 fp, .int .i64 fq] 24)
  have hxr := Box.new w25 24 #[.int .i64 fp, .int .i64 fq]
  replace h := Below.step h hA
  replace hxa := hxa.kept hA
  replace hxb := hxb.kept hA
  replace hxs := hxs.kept hA
  replace hxu := hxu.kept hA
  replace hxd := hxd.kept hA
  replace hxv := hxv.kept hA
  replace hxp := hxp.kept hA
  replace hxx := hxx.kept hA
  replace hxq := hxq.kept hA
  replace hxy := hxy.kept hA
  replace hxf := hxf.kept hA
  clear hA kas kbs kls kau kbu klu kad kbd kld kav kbv klv kap kbp klp kax kbx klx kaq kbq klq kay kby kly kaf kbf klf
  generalize w25.alloc (.cells #[.int .i64 fp, .int .i64 fq] 24) = w26 at *
  generalize w25.heap.size = gr at hxr ⊢
  obtain ⟨kas, kbs⟩ := hxs.two
  have kls := hxs.lt
  obtain ⟨kau, kbu⟩ := hxu.two
  have klu := hxu.lt
  obtain ⟨kad, kbd⟩ := hxd.two
  have kld := hxd.lt
  obtain ⟨kav, kbv⟩ := hxv.two
  have klv := hxv.lt
  obtain ⟨kap, kbp⟩ := hxp.two
  have klp := hxp.lt
  obtain ⟨kax, kbx⟩ := hxx.two
  have klx := hxx.lt
  obtain ⟨kaq, kbq⟩ := hxq.two
  have klq := hxq.lt
  obtain ⟨kay, kby⟩ := hxy.two
  have kly := hxy.lt
  obtain ⟨kaf, kbf⟩ := hxf.two
  have klf := hxf.lt
  obtain ⟨kar, kbr⟩ := hxr.two
  have klr := hxr.lt
  go_upto_if 186 with fail
  clear e_ok e_one e_three e_five e_seven e_l e_nine e_sp e_sq e_dp e_dq e_pp e_pq e_qp e_qq e_fp e_fq
  clear kas kbs kls kau kbu klu kad kbd kld kav kbv klv kap kbp klp kax kbx klx kaq kbq klq kay kby kly kaf kbf klf kar kbr klr
  go_cut [] (fun wx => Below w.heap.size w wx ∧ Box wx ga 24 #[.int .i64 p0, .int .i64 q0] ∧ Box wx gb 24 #[.int .i64 p1, .int .i64 q1] ∧ Box wx gq 24 #[.int .i64 qp, .int .i64 qq] ∧ Box wx gv 24 #[.int .i64 dp, .int .i64 dq] ∧ Box wx gf 24 #[.int .i64 fp, .int .i64 fq] ∧ Box wx gr 24 #[.int .i64 fp, .int .i64 fq])
  case first =>
    as_aux_lemma =>
      cases ok with
      | false =>
        go_wp2_with fail
        go_meet
        case rel => exact ⟨h, hxa, hxb, hxq, hxv, hxf, hxr⟩
      | true =>
        have e_p0 : (p0 != p0) = false := by simp
        have e_q0 : (q0 != q0) = false := by simp
        have e_sp : (sp != sp) = false := by simp
        have e_sq : (sq != sq) = false := by simp
        obtain ⟨kab, kbb⟩ := hxb.two
        have klb := hxb.lt
        obtain ⟨kas, kbs⟩ := hxs.two
        have kls := hxs.lt
        go_wp2_with fail
        refine (H.out.back rfl _ (hL.kept h)).mono ?_
        rintro e w27 ⟨rfl, hb⟩
        replace h := Below.step h hb
        replace hxa := hxa.kept hb
        replace hxb := hxb.kept hb
        replace hxs := hxs.kept hb
        replace hxu := hxu.kept hb
        replace hxd := hxd.kept hb
        replace hxv := hxv.kept hb
        replace hxp := hxp.kept hb
        replace hxx := hxx.kept hb
        replace hxq := hxq.kept hb
        replace hxy := hxy.kept hb
        replace hxf := hxf.kept hb
        replace hxr := hxr.kept hb
        clear hb kab kbb klb kas kbs kls
        obtain ⟨kaa, kba⟩ := hxa.two
        have kla := hxa.lt
        obtain ⟨kab, kbb⟩ := hxb.two
        have klb := hxb.lt
        go_wp2_with fail
        have hA := below_alloc1 w27 (.cells #[.int .i64 p0, .int .i64 q0] 24)
        have hxk := Box.new w27 24 #[.int .i64 p0, .int .i64 q0]
        replace h := Below.step h hA
        replace hxa := hxa.kept hA
        replace hxb := hxb.kept hA
        replace hxs := hxs.kept hA
        replace hxu := hxu.kept hA
        replace hxd := hxd.kept hA
        replace hxv := hxv.kept hA
        replace hxp := hxp.kept hA
        replace hxx := hxx.kept hA
        replace hxq := hxq.kept hA
        replace hxy := hxy.kept hA
        replace hxf := hxf.kept hA
        replace hxr := hxr.kept hA
        clear hA kaa kba kla kab kbb klb
        generalize w27.alloc (.cells #[.int .i64 p0, .int .i64 q0] 24) = w28 at *
        generalize w27.heap.size = gk at hxk ⊢
        refine (H.out.other rfl _ (hL.kept h)).mono ?_
        rintro e w29 ⟨rfl, hb⟩
        replace h := Below.step h hb
        replace hxa := hxa.kept hb
        replace hxb := hxb.kept hb
        replace hxs := hxs.kept hb
        replace hxu := hxu.kept hb
        replace hxd := hxd.kept hb
        replace hxv := hxv.kept hb
        replace hxp := hxp.kept hb
        replace hxx := hxx.kept hb
        replace hxq := hxq.kept hb
        replace hxy := hxy.kept hb
        replace hxf := hxf.kept hb
        replace hxr := hxr.kept hb
        replace hxk := hxk.kept hb
        clear hb
        obtain ⟨kaa, kba⟩ := hxa.two
        have kla := hxa.lt
        obtain ⟨kas, kbs⟩ := hxs.two
        have kls := hxs.lt
        obtain ⟨kau, kbu⟩ := hxu.two
        have klu := hxu.lt
        obtain ⟨kak, kbk⟩ := hxk.two
        have klk := hxk.lt
        go_wp2_with fail
        have hA := below_alloc1 w29 (.cells #[.int .i64 sp, .int .i64 sq] 24)
        have hxo := Box.new w29 24 #[.int .i64 sp, .int .i64 sq]
        replace h := Below.step h hA
        replace hxa := hxa.kept hA
        replace hxb := hxb.kept hA
        replace hxs := hxs.kept hA
        replace hxu := hxu.kept hA
        replace hxd := hxd.kept hA
        replace hxv := hxv.kept hA
        replace hxp := hxp.kept hA
        replace hxx := hxx.kept hA
        replace hxq := hxq.kept hA
        replace hxy := hxy.kept hA
        replace hxf := hxf.kept hA
        replace hxr := hxr.kept hA
        replace hxk := hxk.kept hA
        clear hA kaa kba kla kas kbs kls kau kbu klu kak kbk klk
        generalize w29.alloc (.cells #[.int .i64 sp, .int .i64 sq] 24) = w30 at *
        generalize w29.heap.size = go at hxo ⊢
        refine (H.out.good rfl _ (hL.kept h)).mono ?_
        rintro e w31 ⟨rfl, hb⟩
        replace h := Below.step h hb
        replace hxa := hxa.kept hb
        replace hxb := hxb.kept hb
        replace hxs := hxs.kept hb
        replace hxu := hxu.kept hb
        replace hxd := hxd.kept hb
        replace hxv := hxv.kept hb
        replace hxp := hxp.kept hb
        replace hxx := hxx.kept hb
        replace hxq := hxq.kept hb
        replace hxy := hxy.kept hb
        replace hxf := hxf.kept hb
        replace hxr := hxr.kept hb
        replace hxk := hxk.kept hb
        replace hxo := hxo.kept hb
        clear hb
        clear e_p0 e_q0 e_sp e_sq
        go_wp2_with fail
        go_meet
        case rel => exact ⟨h, hxa, hxb, hxq, hxv, hxf, hxr⟩
  clear h hxa hxb hxs hxu hxd hxv hxp hxx hxq hxy hxf hxr
  obtain ⟨h, hxa, hxb, hxq, hxv, hxf, hxr⟩ := hcut
  rename World => wd
  as_aux_lemma =>
    go_upto_if 220 with fail
    go_cut [] (fun wx => Below w.heap.size w wx ∧ Box wx ga 24 #[.int .i64 p0, .int .i64 q0] ∧ Box wx gv 24 #[.int .i64 dp, .int .i64 dq] ∧ Box wx gf 24 #[.int .i64 fp, .int .i64 fq] ∧ Box wx gr 24 #[.int .i64 fp, .int .i64 fq])
    case first =>
      as_aux_lemma =>
        cases five with
        | false =>
          go_wp2_with fail
          go_meet
          case rel => exact ⟨h, hxa, hxv, hxf, hxr⟩
        | true =>
          have e_p0 : (p0 != p0) = false := by simp
          have e_q0 : (q0 != q0) = false := by simp
          obtain ⟨kab, kbb⟩ := hxb.two
          have klb := hxb.lt
          obtain ⟨kaq, kbq⟩ := hxq.two
          have klq := hxq.lt
          go_wp2_with fail
          refine (H.out.times rfl _ (hL.kept h)).mono ?_
          rintro e w32 ⟨rfl, hb⟩
          replace h := Below.step h hb
          replace hxa := hxa.kept hb
          replace hxb := hxb.kept hb
          replace hxq := hxq.kept hb
          replace hxv := hxv.kept hb
          replace hxf := hxf.kept hb
          replace hxr := hxr.kept hb
          clear hb kab kbb klb kaq kbq klq
          obtain ⟨kaa, kba⟩ := hxa.two
          have kla := hxa.lt
          have hxk := Box.new w32 24 #[.int .i64 p0, .int .i64 q0]
          have hA := below_alloc1 w32 (.cells #[.int .i64 p0, .int .i64 q0] 24)
          go_upto_region 26 with fail
          replace h := Below.step h hA
          replace hxa := hxa.kept hA
          replace hxb := hxb.kept hA
          replace hxq := hxq.kept hA
          replace hxv := hxv.kept hA
          replace hxf := hxf.kept hA
          replace hxr := hxr.kept hA
          clear hA kaa kba kla
          generalize w32.alloc (.cells #[.int .i64 p0, .int .i64 q0] 24) = w33 at *
          generalize w32.heap.size = gk at hxk ⊢
          obtain ⟨kaa, kba⟩ := hxa.two
          have kla := hxa.lt
          obtain ⟨kak, kbk⟩ := hxk.two
          have klk := hxk.lt
          go_wp2_with fail
          go_meet
          case rel => exact ⟨h, hxa, hxv, hxf, hxr⟩
    clear h hxa hxb hxq hxv hxf hxr
    obtain ⟨h, hxa, hxv, hxf, hxr⟩ := hcut
    rename World => we
    as_aux_lemma =>
      obtain ⟨kav, kbv⟩ := hxv.two
      have klv := hxv.lt
      have e_nd : (decide (dp < 0) != decide (dp < 0)) = false := by simp
      have hsg := Lib.hid H.out.sign
      clear H
      cases seven with
      | false =>
        as_aux_lemma =>
          cases nine with
          | false =>
            go_wp2_with fail
            go_ret
            exact ⟨rfl, h⟩
          | true =>
            go_wp2_with fail
            refine (K.out.gcd rfl _).mono ?_
            rintro e wf ⟨rfl, rfl⟩
            clear kav kbv klv
            obtain ⟨kaf, kbf⟩ := hxf.two
            obtain ⟨kar, kbr⟩ := hxr.two
            have cP := K.out.absP rfl
            have cN := K.out.absN rfl
            have cD := K.out.absD rfl
            have cG := K.out.good rfl
            have v1 : IntKind.i64.wrap ((aP : Int) * G) = (aN : Int) := by rw [K.out.eqP rfl]; exact IntWalk.i64_in _ (by have := K.out.leN rfl; omega)
            have v2 : IntKind.i64.wrap (fq * (G : Int)) = (aD : Int) := by rw [K.out.eqQ rfl]; exact IntWalk.i64_in _ (by have := K.out.leD rfl; omega)
            have v3 : ((aN : Int) == aN) = true := by simp
            have v4 : ((aD : Int) == aD) = true := by simp
            replace cP := Lib.hid cP
            replace cN := Lib.hid cN
            replace cD := Lib.hid cD
            replace cG := Lib.hid cG
            have hLw : Lim we := hL.kept h
            clear K
            go_wp2_with fail
            go_region_held3 (fun w' => w'.cell? ⟨gf, 0, none⟩ = some (.int .i64 fp) ∧ w'.cell? ⟨gf, 1, none⟩ = some (.int .i64 fq) ∧ w'.cell? ⟨gr, 0, none⟩ = some (.int .i64 fp) ∧ w'.cell? ⟨gr, 1, none⟩ = some (.int .i64 fq)) ((refine ⟨?_, ?_, ?_, ?_⟩ <;> assumption))
              (first
                | (go_at_call 18; (with_reducible refine (cG.out _ ?_).mono ?_); (exact hLw); rintro e w' ⟨rfl, hb⟩; have hq : Below we.heap.size we w' := ⟨hb.os, hb.tape, hb.output, hb.size, hb.block⟩; obtain ⟨q1, q2⟩ := (hxf.kept hq).two; obtain ⟨q3, q4⟩ := (hxr.kept hq).two)
                | (go_at_call 20; (with_reducible refine (cP.out _).mono ?_); rintro e w' ⟨rfl, rfl⟩)
                | (go_at_call 20; (with_reducible refine (cN.out _).mono ?_); rintro e w' ⟨rfl, rfl⟩)
                | (go_at_call 20; (with_reducible refine (cD.out _).mono ?_); rintro e w' ⟨rfl, rfl⟩))
            go_wp2_with fail
            go_ret
            exact ⟨rfl, Below.step h hq⟩
      | true =>
        cases one with
        | false =>
          as_aux_lemma =>
            cases nine with
            | false =>
              go_wp2_with fail
              go_ret
              exact ⟨rfl, h⟩
            | true =>
              go_wp2_with fail
              refine (K.out.gcd rfl _).mono ?_
              rintro e wf ⟨rfl, rfl⟩
              clear kav kbv klv
              obtain ⟨kaf, kbf⟩ := hxf.two
              obtain ⟨kar, kbr⟩ := hxr.two
              have cP := K.out.absP rfl
              have cN := K.out.absN rfl
              have cD := K.out.absD rfl
              have cG := K.out.good rfl
              have v1 : IntKind.i64.wrap ((aP : Int) * G) = (aN : Int) := by rw [K.out.eqP rfl]; exact IntWalk.i64_in _ (by have := K.out.leN rfl; omega)
              have v2 : IntKind.i64.wrap (fq * (G : Int)) = (aD : Int) := by rw [K.out.eqQ rfl]; exact IntWalk.i64_in _ (by have := K.out.leD rfl; omega)
              have v3 : ((aN : Int) == aN) = true := by simp
              have v4 : ((aD : Int) == aD) = true := by simp
              replace cP := Lib.hid cP
              replace cN := Lib.hid cN
              replace cD := Lib.hid cD
              replace cG := Lib.hid cG
              have hLw : Lim we := hL.kept h
              clear K
              go_wp2_with fail
              go_region_held3 (fun w' => w'.cell? ⟨gf, 0, none⟩ = some (.int .i64 fp) ∧ w'.cell? ⟨gf, 1, none⟩ = some (.int .i64 fq) ∧ w'.cell? ⟨gr, 0, none⟩ = some (.int .i64 fp) ∧ w'.cell? ⟨gr, 1, none⟩ = some (.int .i64 fq)) ((refine ⟨?_, ?_, ?_, ?_⟩ <;> assumption))
                (first
                  | (go_at_call 18; (with_reducible refine (cG.out _ ?_).mono ?_); (exact hLw); rintro e w' ⟨rfl, hb⟩; have hq : Below we.heap.size we w' := ⟨hb.os, hb.tape, hb.output, hb.size, hb.block⟩; obtain ⟨q1, q2⟩ := (hxf.kept hq).two; obtain ⟨q3, q4⟩ := (hxr.kept hq).two)
                  | (go_at_call 20; (with_reducible refine (cP.out _).mono ?_); rintro e w' ⟨rfl, rfl⟩)
                  | (go_at_call 20; (with_reducible refine (cN.out _).mono ?_); rintro e w' ⟨rfl, rfl⟩)
                  | (go_at_call 20; (with_reducible refine (cD.out _).mono ?_); rintro e w' ⟨rfl, rfl⟩))
              go_wp2_with fail
              go_ret
              exact ⟨rfl, Below.step h hq⟩
        | true =>
          obtain rfl := hsg.out rfl rfl
          as_aux_lemma =>
            cases nine with
            | false =>
              go_wp2_with fail
              go_ret
              exact ⟨rfl, h⟩
            | true =>
              go_wp2_with fail
              refine (K.out.gcd rfl _).mono ?_
              rintro e wf ⟨rfl, rfl⟩
              clear kav kbv klv
              obtain ⟨kaf, kbf⟩ := hxf.two
              obtain ⟨kar, kbr⟩ := hxr.two
              have cP := K.out.absP rfl
              have cN := K.out.absN rfl
              have cD := K.out.absD rfl
              have cG := K.out.good rfl
              have v1 : IntKind.i64.wrap ((aP : Int) * G) = (aN : Int) := by rw [K.out.eqP rfl]; exact IntWalk.i64_in _ (by have := K.out.leN rfl; omega)
              have v2 : IntKind.i64.wrap (fq * (G : Int)) = (aD : Int) := by rw [K.out.eqQ rfl]; exact IntWalk.i64_in _ (by have := K.out.leD rfl; omega)
              have v3 : ((aN : Int) == aN) = true := by simp
              have v4 : ((aD : Int) == aD) = true := by simp
              replace cP := Lib.hid cP
              replace cN := Lib.hid cN
              replace cD := Lib.hid cD
              replace cG := Lib.hid cG
              have hLw : Lim we := hL.kept h
              clear K
              go_wp2_with fail
              go_region_held3 (fun w' => w'.cell? ⟨gf, 0, none⟩ = some (.int .i64 fp) ∧ w'.cell? ⟨gf, 1, none⟩ = some (.int .i64 fq) ∧ w'.cell? ⟨gr, 0, none⟩ = some (.int .i64 fp) ∧ w'.cell? ⟨gr, 1, none⟩ = some (.int .i64 fq)) ((refine ⟨?_, ?_, ?_, ?_⟩ <;> assumption))
                (first
                  | (go_at_call 18; (with_reducible refine (cG.out _ ?_).mono ?_); (exact hLw); rintro e w' ⟨rfl, hb⟩; have hq : Below we.heap.size we w' := ⟨hb.os, hb.tape, hb.output, hb.size, hb.block⟩; obtain ⟨q1, q2⟩ := (hxf.kept hq).two; obtain ⟨q3, q4⟩ := (hxr.kept hq).two)
                  | (go_at_call 20; (with_reducible refine (cP.out _).mono ?_); rintro e w' ⟨rfl, rfl⟩)
                  | (go_at_call 20; (with_reducible refine (cN.out _).mono ?_); rintro e w' ⟨rfl, rfl⟩)
                  | (go_at_call 20; (with_reducible refine (cD.out _).mono ?_); rintro e w' ⟨rfl, rfl⟩))
              go_wp2_with fail
              go_ret
              exact ⟨rfl, Below.step h hq⟩
end Go.Proofs.YtchglkcfolannaaDoor
