/- DrawCubicAtFraction: a loose contract (written by wip/gen/drawcu3.py). -/
import Derived.Test.YtanmkamagdajpaaDoorDrawCu2
import Derived.Test.YtanmkamagdajpaaDoorFrMake
import Derived.RegionTactic
import Derived.ChangeAlike
import Derived.Deep.RegionWith
import Derived.Deep.DeepCutAuto
namespace Go.Proofs.YtanmkamagdajpaaDoor
open Go.RowKit Go.Joins

set_option maxHeartbeats 8000000 in
theorem drawCubicAtFraction_any (A : Option Addr) (n c : Nat) (w : World) (hn : n ≤ 9223372036854775807) (hr : RdB w w.heap.size A n) : Calls Tryd.prog 14 #[.slice A n c] w (GivesC2 w) := by
  have hbw := Below.refl w.heap.size w
  have hA := below_alloc1 w (.cells #[.int .i64 0, .int .i64 0, .int .i64 0, .int .i64 0] 24)
  have hxr := Box.new w 24 #[.int .i64 0, .int .i64 0, .int .i64 0, .int .i64 0]
  replace hbw := Below.step hbw hA
  clear hA
  have hA := below_alloc1 (w.alloc (.cells #[.int .i64 0, .int .i64 0, .int .i64 0, .int .i64 0] 24)) (.cells #[.int .i64 0, .int .i64 0] 36)
  have hxs := Box.new (w.alloc (.cells #[.int .i64 0, .int .i64 0, .int .i64 0, .int .i64 0] 24)) 36 #[.int .i64 0, .int .i64 0]
  rw [show (w.alloc (.cells #[.int .i64 0, .int .i64 0, .int .i64 0, .int .i64 0] 24)).heap.size = w.heap.size + 1 from by simp] at hxs
  replace hbw := Below.step hbw hA
  replace hxr := hxr.kept hA
  clear hA
  have hcur := cur_new ((w.alloc (.cells #[.int .i64 0, .int .i64 0, .int .i64 0, .int .i64 0] 24)).alloc (.cells #[.int .i64 0, .int .i64 0] 36)) A n c
  rw [show ((w.alloc (.cells #[.int .i64 0, .int .i64 0, .int .i64 0, .int .i64 0] 24)).alloc (.cells #[.int .i64 0, .int .i64 0] 36)).heap.size = w.heap.size + 2 from by simp] at hcur
  have hA := below_alloc1 ((w.alloc (.cells #[.int .i64 0, .int .i64 0, .int .i64 0, .int .i64 0] 24)).alloc (.cells #[.int .i64 0, .int .i64 0] 36)) (.cells #[.slice A n c, .int .i64 0, .int .u64 0] 47)
  replace hbw := Below.step hbw hA
  replace hxr := hxr.kept hA
  replace hxs := hxs.kept hA
  clear hA
  have hrd := (hr.below hbw).more (show w.heap.size ≤ w.heap.size + 2 by omega)
  have hd := Dg.start hcur hrd
  have hgl := hcur.lt
  clear hcur hrd hr
  go_enter Tryd.func14, Tryd.ntmps14
  go_wp2_with fail
  obtain ⟨g, eg⟩ : ∃ x, x = w.heap.size + 2 := ⟨_, rfl⟩
  have hgle : w.heap.size ≤ g := by omega
  have nr : w.heap.size ≠ g := by omega
  have ns : (w.heap.size + 1) ≠ g := by omega
  rw [← eg] at hd hgl ⊢
  clear eg
  generalize ((w.alloc (.cells #[.int .i64 0, .int .i64 0, .int .i64 0, .int .i64 0] 24)).alloc (.cells #[.int .i64 0, .int .i64 0] 36)).alloc (.cells #[.slice A n c, .int .i64 0, .int .u64 0] 47) = w0 at *
  refine (pick_any g A n c (0 + 0) 41 _ hd.cur (by omega) hn hd.rd (by omega) (by omega)).mono ?_
  rintro e w1 ⟨x1, ⟨x1l, x1h⟩, rfl, hc1, hg1⟩
  replace hd := hd.on hc1 hg1
  replace hxr := hxr.on hg1 nr
  replace hxs := hxs.on hg1 ns
  clear hc1 hg1
  go_wp2_with fail
  have hrw := Box.new w1 3 #[.int .i64 0, .int .i64 1, .int .i64 (-1), .int .i64 3, .int .i64 (x1 - 20), .int .i64 10000, .int .i64 (-10000), .int .i64 10001]
  have hA := below_alloc1 w1 (.cells #[.int .i64 0, .int .i64 1, .int .i64 (-1), .int .i64 3, .int .i64 (x1 - 20), .int .i64 10000, .int .i64 (-10000), .int .i64 10001] 3)
  have nrw : w1.heap.size ≠ g := by have := hd.gr.size; omega
  replace hd := hd.kept hA
  replace hxr := hxr.kept hA
  replace hxs := hxs.kept hA
  clear hA
  have hri := row_of (lo := -10000) (hi := 10001) hrw (fun k hk => by
    have hk' : k < 8 := hk
    rcases k with _ | _ | _ | _ | _ | _ | _ | _ | k
    all_goals first | exact ⟨_, rfl, by omega, by omega⟩ | omega)
  refine (among_any g _ A n c (0 + 2) 8 _ (-10000) (10001) _ hd.cur (by omega) hn hd.rd (by omega) (by omega) hri nrw).mono ?_
  rintro e w3 ⟨z1, ⟨z1l, z1h⟩, rfl, hc1, hg1⟩
  replace hd := hd.on hc1 hg1
  replace hxr := hxr.on hg1 nr
  replace hxs := hxs.on hg1 ns
  clear hc1 hg1
  clear hri hrw nrw
  go_wp2_with fail
  have hrw := Box.new w3 3 #[.int .i64 1, .int .i64 2, .int .i64 3, .int .i64 7, .int .i64 1000, .int .i64 1001]
  have hA := below_alloc1 w3 (.cells #[.int .i64 1, .int .i64 2, .int .i64 3, .int .i64 7, .int .i64 1000, .int .i64 1001] 3)
  have nrw : w3.heap.size ≠ g := by have := hd.gr.size; omega
  replace hd := hd.kept hA
  replace hxr := hxr.kept hA
  replace hxs := hxs.kept hA
  clear hA
  have hri := row_of (lo := 1) (hi := 1001) hrw (fun k hk => by
    have hk' : k < 6 := hk
    rcases k with _ | _ | _ | _ | _ | _ | k
    all_goals first | exact ⟨_, rfl, by omega, by omega⟩ | omega)
  refine (among_any g _ A n c (0 + 4) 6 _ (1) (1001) _ hd.cur (by omega) hn hd.rd (by omega) (by omega) hri nrw).mono ?_
  rintro e w5 ⟨z2, ⟨z2l, z2h⟩, rfl, hc1, hg1⟩
  replace hd := hd.on hc1 hg1
  replace hxr := hxr.on hg1 nr
  replace hxs := hxs.on hg1 ns
  clear hc1 hg1
  clear hri hrw nrw
  go_wp2_with fail
  refine (frMake_any z1 z2 _ (by omega) (by omega) (by omega) (by omega)).mono ?_
  rintro e w6 ⟨rfl, hb⟩
  replace hd := hd.kept hb
  replace hxr := hxr.kept hb
  replace hxs := hxs.kept hb
  clear hb
  have hlb := low_bd z1 z2
  obtain ⟨P, hP⟩ : ∃ z, lowRP z1 z2 = z := ⟨_, rfl⟩
  obtain ⟨Q, hQ⟩ : ∃ z, lowRQ z1 z2 = z := ⟨_, rfl⟩
  rw [hP, hQ] at hlb
  rw [hP, hQ]
  clear hP hQ
  go_wp2_with fail
  have hA := below_alloc1 w6 (.cells #[.int .i64 P, .int .i64 Q] 36)
  have hxx := Box.new w6 36 #[.int .i64 P, .int .i64 Q]
  have sx : w0.heap.size ≤ w6.heap.size := hd.gr.size
  have nx : w6.heap.size ≠ g := by omega
  have orx := hxr.lt
  have osx := hxs.lt
  replace hd := hd.kept hA
  replace hxr := hxr.kept hA
  replace hxs := hxs.kept hA
  clear hA
  generalize w6.alloc (.cells #[.int .i64 P, .int .i64 Q] 36) = w7 at *
  obtain ⟨gx, ex⟩ : ∃ x, x = w6.heap.size := ⟨_, rfl⟩
  rw [← ex] at hxx sx nx orx osx ⊢
  clear ex
  have gxs : w.heap.size + 1 ≠ gx := by omega
  have gxr : w.heap.size ≠ gx := by omega
  refine (one_any g A n c (0 + 6) 16 _ hd.cur (by omega) hn hd.rd (by omega) (by omega)).mono ?_
  rintro e w8 ⟨bo, rfl, hc1, hg1⟩
  replace hd := hd.on hc1 hg1
  replace hxr := hxr.on hg1 nr
  replace hxs := hxs.on hg1 ns
  replace hxx := hxx.on hg1 nx
  clear hc1 hg1
  cases bo with
  | false =>
    have ca := fun (W : World) (hD : Dg w0 W g A n c (0 + 8)) => anyCubic_any g A n c (0 + 8) W hD.cur (by omega) hn hD.rd
    replace ca := Lib.hid ca
    have hdd : Dg w0 w8.drew g A n c (0 + 8) := hd.keptB hgl ⟨rfl, rfl, rfl, Nat.le_refl _, fun _ _ => rfl⟩
    obtain ⟨kr0, kr1, kr2, kr3⟩ := hxr.four
    have fr0 := hxr.free 0
    have fr1 := hxr.free 1
    have fr2 := hxr.free 2
    have fr3 := hxr.free 3
    have lr := hxr.lt
    obtain ⟨ks0, ks1⟩ := hxs.two
    have fs0 := hxs.free 0
    have fs1 := hxs.free 1
    have ls := hxs.lt
    obtain ⟨kx0, kx1⟩ := hxx.two
    have fx0 := hxx.free 0
    have fx1 := hxx.free 1
    have lx := hxx.lt
    go_wp2_with fail
    go_region_with (go_at_call 21; (with_reducible refine (ca.out _ ?_).mono ?_); (first | exact hd | exact hdd); rintro e w7 ⟨a0, a1, a2, a3, h0, h1, h2, h3, rfl, hc7, hg7⟩; have hg8 : w8.grownBy w7 (some g) := ⟨hg7.os, hg7.tape, hg7.output, hg7.size, hg7.block⟩; have hyr := hxr.on hg8 nr; have hys := hxs.on hg8 ns; have hyx := hxx.on hg8 nx; obtain ⟨yr0, yr1, yr2, yr3⟩ := hyr.four; have gr0 := hyr.free 0; have gr1 := hyr.free 1; have gr2 := hyr.free 2; have gr3 := hyr.free 3; have lyr := hyr.lt; obtain ⟨ys0, ys1⟩ := hys.two; have gs0 := hys.free 0; have gs1 := hys.free 1; have lys := hys.lt; obtain ⟨yx0, yx1⟩ := hyx.two; have gx0 := hyx.free 0; have gx1 := hyx.free 1; have lyx := hyx.lt)
    all_goals (
      have hbf : Below w.heap.size w w7 := (hd.below hbw hgle).grown hg8 (hd.below hbw hgle).size (fun k hk => by cases hk; exact hgle)
      replace hys := hys.apart (show (w.heap.size + 1) ≠ w.heap.size from by omega) 0 (.int .i64 a0)
      replace hyr := hyr.set 0 (.int .i64 a0)
      replace hbf := hbf.setCell (p := ⟨w.heap.size, 0, none⟩) (show w.heap.size ≤ w.heap.size from by omega) (.int .i64 a0)
      replace hys := hys.apart (show (w.heap.size + 1) ≠ w.heap.size from by omega) 1 (.int .i64 a1)
      replace hyr := hyr.set 1 (.int .i64 a1)
      replace hbf := hbf.setCell (p := ⟨w.heap.size, 1, none⟩) (show w.heap.size ≤ w.heap.size from by omega) (.int .i64 a1)
      replace hys := hys.apart (show (w.heap.size + 1) ≠ w.heap.size from by omega) 2 (.int .i64 a2)
      replace hyr := hyr.set 2 (.int .i64 a2)
      replace hbf := hbf.setCell (p := ⟨w.heap.size, 2, none⟩) (show w.heap.size ≤ w.heap.size from by omega) (.int .i64 a2)
      replace hys := hys.apart (show (w.heap.size + 1) ≠ w.heap.size from by omega) 3 (.int .i64 a3)
      replace hyr := hyr.set 3 (.int .i64 a3)
      replace hbf := hbf.setCell (p := ⟨w.heap.size, 3, none⟩) (show w.heap.size ≤ w.heap.size from by omega) (.int .i64 a3)
      replace hyr := hyr.apart (show w.heap.size ≠ (w.heap.size + 1) from by omega) 0 (.int .i64 P)
      replace hys := hys.set 0 (.int .i64 P)
      replace hbf := hbf.setCell (p := ⟨(w.heap.size + 1), 0, none⟩) (show w.heap.size ≤ (w.heap.size + 1) from by omega) (.int .i64 P)
      replace hyr := hyr.apart (show w.heap.size ≠ (w.heap.size + 1) from by omega) 1 (.int .i64 Q)
      replace hys := hys.set 1 (.int .i64 Q)
      replace hbf := hbf.setCell (p := ⟨(w.heap.size + 1), 1, none⟩) (show w.heap.size ≤ (w.heap.size + 1) from by omega) (.int .i64 Q)
      obtain ⟨q0, q1, q2, q3⟩ := hyr.four
      obtain ⟨q4, q5⟩ := hys.two
      go_wp2_with fail
      refine bodyPost_ret (v := .tuple #[.agg #[.int .i64 a0, .int .i64 a1, .int .i64 a2, .int .i64 a3], .agg #[.int .i64 P, .int .i64 Q]]) (by simp [results, Tryd.results14, go_sem, q0, q1, q2, q3, q4, q5]) rfl ⟨a0, a1, a2, a3, P, Q, h0, h1, h2, h3, ⟨by omega, by omega⟩, ⟨by omega, by omega⟩, rfl, ?_⟩
      first | exact hbf | exact Below.drewN' hbf 1)
  | true =>
    go_wp2_with fail
    refine (anyFraction_any g A n c (0 + 8) _ hd.cur (by omega) hn hd.rd).mono ?_
    rintro e w9 ⟨p, q, hp, hq, rfl, hc1, hg1⟩
    replace hd := hd.on hc1 hg1
    replace hxr := hxr.on hg1 nr
    replace hxs := hxs.on hg1 ns
    replace hxx := hxx.on hg1 nx
    clear hc1 hg1
    obtain ⟨kx0, kx1⟩ := hxx.two
    have fx0 := hxx.free 0
    have fx1 := hxx.free 1
    have lx := hxx.lt
    obtain ⟨ks0, ks1⟩ := hxs.two
    have fs0 := hxs.free 0
    have fs1 := hxs.free 1
    have ls := hxs.lt
    obtain ⟨kr0, kr1, kr2, kr3⟩ := hxr.four
    have fr0 := hxr.free 0
    have fr1 := hxr.free 1
    have fr2 := hxr.free 2
    have fr3 := hxr.free 3
    have lr := hxr.lt
    clear kx0 kx1 fx0 fx1 lx ks0 ks1 fs0 fs1 ls kr0 kr1 kr2 kr3 fr0 fr1 fr2 fr3 lr
    obtain ⟨kx0, kx1⟩ := hxx.two
    have fx0 := hxx.free 0
    have fx1 := hxx.free 1
    have lx := hxx.lt
    go_upto_region 5 with fail
    clear kx0 kx1 fx0 fx1 lx
    replace hxr := hxr.apart (show w.heap.size ≠ gx from by omega) 0 (.int .i64 p)
    replace hxs := hxs.apart (show (w.heap.size + 1) ≠ gx from by omega) 0 (.int .i64 p)
    replace hxx := hxx.set 0 (.int .i64 p)
    replace hd := hd.set hgl (sx) 0 (.int .i64 p)
    replace hxr := hxr.apart (show w.heap.size ≠ gx from by omega) 1 (.int .i64 q)
    replace hxs := hxs.apart (show (w.heap.size + 1) ≠ gx from by omega) 1 (.int .i64 q)
    replace hxx := hxx.set 1 (.int .i64 q)
    replace hd := hd.set hgl (sx) 1 (.int .i64 q)
    generalize ((w9.setCell ⟨gx, 0, none⟩ (.int .i64 p)).setCell ⟨gx, 1, none⟩ (.int .i64 q)) = w10 at *
    have ca := fun (W : World) (hD : Dg w0 W g A n c (0 + 26)) => anyCubic_any g A n c (0 + 26) W hD.cur (by omega) hn hD.rd
    replace ca := Lib.hid ca
    have hdd : Dg w0 w10.drew g A n c (0 + 26) := hd.keptB hgl ⟨rfl, rfl, rfl, Nat.le_refl _, fun _ _ => rfl⟩
    obtain ⟨kr0, kr1, kr2, kr3⟩ := hxr.four
    have fr0 := hxr.free 0
    have fr1 := hxr.free 1
    have fr2 := hxr.free 2
    have fr3 := hxr.free 3
    have lr := hxr.lt
    obtain ⟨ks0, ks1⟩ := hxs.two
    have fs0 := hxs.free 0
    have fs1 := hxs.free 1
    have ls := hxs.lt
    obtain ⟨kx0, kx1⟩ := hxx.two
    have fx0 := hxx.free 0
    have fx1 := hxx.free 1
    have lx := hxx.lt
    go_wp2_with fail
    go_region_with (go_at_call 21; (with_reducible refine (ca.out _ ?_).mono ?_); (first | exact hd | exact hdd); rintro e w7 ⟨a0, a1, a2, a3, h0, h1, h2, h3, rfl, hc7, hg7⟩; have hg8 : w10.grownBy w7 (some g) := ⟨hg7.os, hg7.tape, hg7.output, hg7.size, hg7.block⟩; have hyr := hxr.on hg8 nr; have hys := hxs.on hg8 ns; have hyx := hxx.on hg8 nx; obtain ⟨yr0, yr1, yr2, yr3⟩ := hyr.four; have gr0 := hyr.free 0; have gr1 := hyr.free 1; have gr2 := hyr.free 2; have gr3 := hyr.free 3; have lyr := hyr.lt; obtain ⟨ys0, ys1⟩ := hys.two; have gs0 := hys.free 0; have gs1 := hys.free 1; have lys := hys.lt; obtain ⟨yx0, yx1⟩ := hyx.two; have gx0 := hyx.free 0; have gx1 := hyx.free 1; have lyx := hyx.lt)
    all_goals (
      have hbf : Below w.heap.size w w7 := (hd.below hbw hgle).grown hg8 (hd.below hbw hgle).size (fun k hk => by cases hk; exact hgle)
      replace hys := hys.apart (show (w.heap.size + 1) ≠ w.heap.size from by omega) 0 (.int .i64 a0)
      replace hyr := hyr.set 0 (.int .i64 a0)
      replace hbf := hbf.setCell (p := ⟨w.heap.size, 0, none⟩) (show w.heap.size ≤ w.heap.size from by omega) (.int .i64 a0)
      replace hys := hys.apart (show (w.heap.size + 1) ≠ w.heap.size from by omega) 1 (.int .i64 a1)
      replace hyr := hyr.set 1 (.int .i64 a1)
      replace hbf := hbf.setCell (p := ⟨w.heap.size, 1, none⟩) (show w.heap.size ≤ w.heap.size from by omega) (.int .i64 a1)
      replace hys := hys.apart (show (w.heap.size + 1) ≠ w.heap.size from by omega) 2 (.int .i64 a2)
      replace hyr := hyr.set 2 (.int .i64 a2)
      replace hbf := hbf.setCell (p := ⟨w.heap.size, 2, none⟩) (show w.heap.size ≤ w.heap.size from by omega) (.int .i64 a2)
      replace hys := hys.apart (show (w.heap.size + 1) ≠ w.heap.size from by omega) 3 (.int .i64 a3)
      replace hyr := hyr.set 3 (.int .i64 a3)
      replace hbf := hbf.setCell (p := ⟨w.heap.size, 3, none⟩) (show w.heap.size ≤ w.heap.size from by omega) (.int .i64 a3)
      replace hyr := hyr.apart (show w.heap.size ≠ (w.heap.size + 1) from by omega) 0 (.int .i64 p)
      replace hys := hys.set 0 (.int .i64 p)
      replace hbf := hbf.setCell (p := ⟨(w.heap.size + 1), 0, none⟩) (show w.heap.size ≤ (w.heap.size + 1) from by omega) (.int .i64 p)
      replace hyr := hyr.apart (show w.heap.size ≠ (w.heap.size + 1) from by omega) 1 (.int .i64 q)
      replace hys := hys.set 1 (.int .i64 q)
      replace hbf := hbf.setCell (p := ⟨(w.heap.size + 1), 1, none⟩) (show w.heap.size ≤ (w.heap.size + 1) from by omega) (.int .i64 q)
      obtain ⟨q0, q1, q2, q3⟩ := hyr.four
      obtain ⟨q4, q5⟩ := hys.two
      go_wp2_with fail
      refine bodyPost_ret (v := .tuple #[.agg #[.int .i64 a0, .int .i64 a1, .int .i64 a2, .int .i64 a3], .agg #[.int .i64 p, .int .i64 q]]) (by simp [results, Tryd.results14, go_sem, q0, q1, q2, q3, q4, q5]) rfl ⟨a0, a1, a2, a3, p, q, h0, h1, h2, h3, hp, hq, rfl, ?_⟩
      first | exact hbf | exact Below.drewN' hbf 1)
end Go.Proofs.YtanmkamagdajpaaDoor
