/- The model's ptTimes (written by wip/gen/pttim.py). -/
import Derived.Test.YtabcnkobojkdhaaDoorPtMul
import Derived.Test.YtabcnkobojkdhaaDoorPtB
import Derived.Deep.RegionHeld3
import Derived.Deep.DeepCutAuto
import Derived.BigQuiet
namespace Go.Proofs.YtabcnkobojkdhaaDoor
open Go.RowKit Go.Joins

set_option maxHeartbeats 1000000 in
set_option maxRecDepth 100000 in
theorem ptTimes_pos (a b : Int) (p : P3) (N : Nat) (w : World) (hN12 : N ≤ 1000) (hc : (-1000 ≤ a ∧ a ≤ 1000) ∧ (-10000 ≤ b ∧ b ≤ 10000)) (gp : PtOn a b p) (c1 : ∀ s : P3, PtOn a b s → ∀ W : World, Calls Tryd.prog 32 #[.agg #[.int .i64 a, .int .i64 b], .agg #[.int .i64 s.x, .int .i64 s.y, .int .i64 s.e], .agg #[.int .i64 p.x, .int .i64 p.y, .int .i64 p.e]] W (GivesO W (addP a s p))) : Calls Tryd.prog 38 #[.agg #[.int .i64 a, .int .i64 b], .agg #[.int .i64 p.x, .int .i64 p.y, .int .i64 p.e], .int .i64 N] w (GivesO w (mult a p N)) := by
  have h := Below.refl w.heap.size w
  have hA := below_alloc1 w (.cells #[.int .i64 a, .int .i64 b] 29)
  have hxc := Box.new w 29 #[.int .i64 a, .int .i64 b]
  replace h := Below.step h hA
  clear hA
  have hA := below_alloc1 (w.alloc (.cells #[.int .i64 a, .int .i64 b] 29)) (.cells #[.int .i64 p.x, .int .i64 p.y, .int .i64 p.e] 26)
  have hxp := Box.new (w.alloc (.cells #[.int .i64 a, .int .i64 b] 29)) 26 #[.int .i64 p.x, .int .i64 p.y, .int .i64 p.e]
  rw [show (w.alloc (.cells #[.int .i64 a, .int .i64 b] 29)).heap.size = w.heap.size + 1 from by simp] at hxp
  replace h := Below.step h hA
  replace hxc := hxc.kept hA
  clear hA
  have hA := below_alloc1 ((w.alloc (.cells #[.int .i64 a, .int .i64 b] 29)).alloc (.cells #[.int .i64 p.x, .int .i64 p.y, .int .i64 p.e] 26)) (.cells #[.int .i64 0, .int .i64 0, .int .i64 0] 26)
  have hxr := Box.new ((w.alloc (.cells #[.int .i64 a, .int .i64 b] 29)).alloc (.cells #[.int .i64 p.x, .int .i64 p.y, .int .i64 p.e] 26)) 26 #[.int .i64 0, .int .i64 0, .int .i64 0]
  rw [show ((w.alloc (.cells #[.int .i64 a, .int .i64 b] 29)).alloc (.cells #[.int .i64 p.x, .int .i64 p.y, .int .i64 p.e] 26)).heap.size = w.heap.size + 2 from by simp] at hxr
  replace h := Below.step h hA
  replace hxc := hxc.kept hA
  replace hxp := hxp.kept hA
  clear hA
  have hA := below_alloc1 (((w.alloc (.cells #[.int .i64 a, .int .i64 b] 29)).alloc (.cells #[.int .i64 p.x, .int .i64 p.y, .int .i64 p.e] 26)).alloc (.cells #[.int .i64 0, .int .i64 0, .int .i64 0] 26)) (.cells #[.int .i64 0, .int .i64 0, .int .i64 0] 26)
  have hxo := Box.new (((w.alloc (.cells #[.int .i64 a, .int .i64 b] 29)).alloc (.cells #[.int .i64 p.x, .int .i64 p.y, .int .i64 p.e] 26)).alloc (.cells #[.int .i64 0, .int .i64 0, .int .i64 0] 26)) 26 #[.int .i64 0, .int .i64 0, .int .i64 0]
  rw [show (((w.alloc (.cells #[.int .i64 a, .int .i64 b] 29)).alloc (.cells #[.int .i64 p.x, .int .i64 p.y, .int .i64 p.e] 26)).alloc (.cells #[.int .i64 0, .int .i64 0, .int .i64 0] 26)).heap.size = w.heap.size + 3 from by simp] at hxo
  replace h := Below.step h hA
  replace hxc := hxc.kept hA
  replace hxp := hxp.kept hA
  replace hxr := hxr.kept hA
  clear hA
  obtain ⟨kc0, kc1⟩ := hxc.two
  have lc := hxc.lt
  obtain ⟨kp0, kp1, kp2⟩ := hxp.three
  have lp := hxp.lt
  obtain ⟨kr0, kr1, kr2⟩ := hxr.three
  have lr := hxr.lt
  obtain ⟨ko0, ko1, ko2⟩ := hxo.three
  have lo := hxo.lt
  have hN : (0 : Int) ≤ N := by omega
  go_enter Tryd.func38, Tryd.ntmps38
  go_wp2_with fail
  go_loopw [2] (fun n wr => ∃ (r : Nat) (s : P3), n = .int .i64 r ∧ Hid (∃ j, j + r = N ∧ mult a p j = some s) ∧ Below w.heap.size w wr ∧ Box wr w.heap.size 29 #[.int .i64 a, .int .i64 b] ∧ Box wr (w.heap.size + 1) 26 #[.int .i64 p.x, .int .i64 p.y, .int .i64 p.e] ∧ Box wr (w.heap.size + 2) 26 #[.int .i64 0, .int .i64 0, .int .i64 0] ∧ Box wr (w.heap.size + 3) 26 #[.int .i64 s.x, .int .i64 s.y, .int .i64 s.e]) (fun n _ => (intOf n).toNat)
  case atStart => exact ⟨N, .zero, rfl, ⟨0, by omega, rfl⟩, h, hxc, hxp, hxr, hxo⟩
  case round =>
    clear h hxc hxp hxr hxo kc0 kc1 lc kp0 kp1 kp2 lp kr0 kr1 kr2 lr ko0 ko1 ko2 lo
    obtain ⟨r, s, rfl, hm, h, hxc, hxp, hxr, hxo⟩ := hrel
    obtain ⟨j, hj, hs⟩ := hm.out
    have hon := mult_on hc gp hs
    rcases Nat.eq_zero_or_pos r with hr | hr
    · subst hr
      have he : Hid (mult a p N = some s) := by rw [← hj]; exact hs
      clear hm hs hj hon c1
      obtain ⟨kc0, kc1⟩ := hxc.two
      have lc := hxc.lt
      obtain ⟨kp0, kp1, kp2⟩ := hxp.three
      have lp := hxp.lt
      obtain ⟨kr0, kr1, kr2⟩ := hxr.three
      have lr := hxr.lt
      obtain ⟨ko0, ko1, ko2⟩ := hxo.three
      have lo := hxo.lt
      have fr0 := hxr.free 0
      have fr1 := hxr.free 1
      have fr2 := hxr.free 2
      obtain ⟨sr0, sr1, sr2⟩ := (((hxr.set 0 (.int .i64 s.x)).set 1 (.int .i64 s.y)).set 2 (.int .i64 s.e)).three
      go_wp2_with fail
      rw [he.out]
      refine bodyPost_ret (v := .tuple #[.agg #[.int .i64 s.x, .int .i64 s.y, .int .i64 s.e], .bool true]) (by simp [results, Tryd.results38, go_sem, sr0, sr1, sr2]) (by rfl) ⟨by rfl, ?_⟩
      exact below_sets3 h (by omega) _ _ _
    · obtain ⟨r', rfl⟩ : ∃ r', r = r' + 1 := ⟨r - 1, by omega⟩
      clear hr hm
      have hr12 : (r' : Int) ≤ 1000 := by omega
      cases hq : addP a s p with
      | none =>
        have he : Hid (mult a p N = none) := by rw [← hj, show j + (r' + 1) = (j + 1) + r' from by omega]; exact mult_none (by rw [mult_step hs]; exact hq) r'
        have c2 : ∀ W : World, Calls Tryd.prog 32 #[.agg #[.int .i64 a, .int .i64 b], .agg #[.int .i64 s.x, .int .i64 s.y, .int .i64 s.e], .agg #[.int .i64 p.x, .int .i64 p.y, .int .i64 p.e]] W (GivesPB W 0 0 0 false) := fun W => by have := c1 s hon W; rw [hq] at this; exact this
        replace c2 := Lib.hid c2
        clear hq hs hj hon c1
        obtain ⟨kc0, kc1⟩ := hxc.two
        have lc := hxc.lt
        obtain ⟨kp0, kp1, kp2⟩ := hxp.three
        have lp := hxp.lt
        obtain ⟨kr0, kr1, kr2⟩ := hxr.three
        have lr := hxr.lt
        obtain ⟨ko0, ko1, ko2⟩ := hxo.three
        have lo := hxo.lt
        go_wp2_with fail
        refine (c2.out _).mono ?_
        rintro e w1 ⟨rfl, hb⟩
        replace h := Below.step h hb
        replace hxc := hxc.kept hb
        replace hxp := hxp.kept hb
        replace hxr := hxr.kept hb
        replace hxo := hxo.kept hb
        clear hb kc0 kc1 lc kp0 kp1 kp2 lp kr0 kr1 kr2 lr ko0 ko1 ko2 lo
        obtain ⟨kc0, kc1⟩ := hxc.two
        have lc := hxc.lt
        obtain ⟨kp0, kp1, kp2⟩ := hxp.three
        have lp := hxp.lt
        obtain ⟨kr0, kr1, kr2⟩ := hxr.three
        have lr := hxr.lt
        obtain ⟨ko0, ko1, ko2⟩ := hxo.three
        have lo := hxo.lt
        have fr0 := hxr.free 0
        have fr1 := hxr.free 1
        have fr2 := hxr.free 2
        obtain ⟨sr0, sr1, sr2⟩ := ((hxr.set3 (.int .i64 0) (.int .i64 0) (.int .i64 0)).kept (below_alloc1 _ (.cells #[.int .i64 0, .int .i64 0, .int .i64 0] 26))).three
        go_wp2_with fail
        rw [he.out]
        refine bodyPost_ret (v := .tuple #[.agg #[.int .i64 0, .int .i64 0, .int .i64 0], .bool false]) (by simp [results, Tryd.results38, go_sem, sr0, sr1, sr2]) (by rfl) ⟨by rfl, ?_⟩
        exact Below.step (below_sets3 h (by omega) _ _ _) (below_alloc1 _ _)
      | some s' =>
        have he : Hid (∃ j, j + r' = N ∧ mult a p j = some s') := ⟨j + 1, by omega, by rw [mult_step hs]; exact hq⟩
        have c2 : ∀ W : World, Calls Tryd.prog 32 #[.agg #[.int .i64 a, .int .i64 b], .agg #[.int .i64 s.x, .int .i64 s.y, .int .i64 s.e], .agg #[.int .i64 p.x, .int .i64 p.y, .int .i64 p.e]] W (GivesPB W s'.x s'.y s'.e true) := fun W => by have := c1 s hon W; rw [hq] at this; exact this
        replace c2 := Lib.hid c2
        clear hq hs hj hon c1
        obtain ⟨kc0, kc1⟩ := hxc.two
        have lc := hxc.lt
        obtain ⟨kp0, kp1, kp2⟩ := hxp.three
        have lp := hxp.lt
        obtain ⟨kr0, kr1, kr2⟩ := hxr.three
        have lr := hxr.lt
        obtain ⟨ko0, ko1, ko2⟩ := hxo.three
        have lo := hxo.lt
        go_wp2_with fail
        refine (c2.out _).mono ?_
        rintro e w2 ⟨rfl, hb⟩
        replace h := Below.step h hb
        replace hxc := hxc.kept hb
        replace hxp := hxp.kept hb
        replace hxr := hxr.kept hb
        replace hxo := hxo.kept hb
        clear hb kc0 kc1 lc kp0 kp1 kp2 lp kr0 kr1 kr2 lr ko0 ko1 ko2 lo
        obtain ⟨kc0, kc1⟩ := hxc.two
        have lc := hxc.lt
        obtain ⟨kp0, kp1, kp2⟩ := hxp.three
        have lp := hxp.lt
        obtain ⟨kr0, kr1, kr2⟩ := hxr.three
        have lr := hxr.lt
        obtain ⟨ko0, ko1, ko2⟩ := hxo.three
        have lo := hxo.lt
        have fo0 := hxo.free 0
        have fo1 := hxo.free 1
        have fo2 := hxo.free 2
        go_wp2_with fail
        go_roundw
        case rel =>
          exact ⟨r', s', by go_num, he, Below.step (below_sets3 h (by omega) _ _ _) (below_alloc1 _ _), (hxc.off3 (by omega) _ _ _).kept (below_alloc1 _ _), (hxp.off3 (by omega) _ _ _).kept (below_alloc1 _ _), (hxr.off3 (by omega) _ _ _).kept (below_alloc1 _ _), (hxo.set3 _ _ _).kept (below_alloc1 _ _)⟩
        case measure => simp [intOf]


set_option maxHeartbeats 1000000 in
set_option maxRecDepth 100000 in
theorem ptTimes_neg (a b : Int) (p : P3) (N : Nat) (w : World) (hN12 : N ≤ 1000) (hN1 : 1 ≤ N) (hy : -9223372036854775807 ≤ p.y ∧ p.y ≤ 9223372036854775807) (hc : (-1000 ≤ a ∧ a ≤ 1000) ∧ (-10000 ≤ b ∧ b ≤ 10000)) (gp : PtOn a b p.neg) (c1 : ∀ s : P3, PtOn a b s → ∀ W : World, Calls Tryd.prog 32 #[.agg #[.int .i64 a, .int .i64 b], .agg #[.int .i64 s.x, .int .i64 s.y, .int .i64 s.e], .agg #[.int .i64 p.x, .int .i64 (-p.y), .int .i64 p.e]] W (GivesO W (addP a s p.neg))) : Calls Tryd.prog 38 #[.agg #[.int .i64 a, .int .i64 b], .agg #[.int .i64 p.x, .int .i64 p.y, .int .i64 p.e], .int .i64 (-(N : Int))] w (GivesO w (mult a p.neg N)) := by
  have hN : (1 : Int) ≤ N := by omega
  have h := Below.refl w.heap.size w
  have hA := below_alloc1 w (.cells #[.int .i64 a, .int .i64 b] 29)
  have hxc := Box.new w 29 #[.int .i64 a, .int .i64 b]
  replace h := Below.step h hA
  clear hA
  have hA := below_alloc1 (w.alloc (.cells #[.int .i64 a, .int .i64 b] 29)) (.cells #[.int .i64 p.x, .int .i64 p.y, .int .i64 p.e] 26)
  have hxp := Box.new (w.alloc (.cells #[.int .i64 a, .int .i64 b] 29)) 26 #[.int .i64 p.x, .int .i64 p.y, .int .i64 p.e]
  rw [show (w.alloc (.cells #[.int .i64 a, .int .i64 b] 29)).heap.size = w.heap.size + 1 from by simp] at hxp
  replace h := Below.step h hA
  replace hxc := hxc.kept hA
  clear hA
  have hA := below_alloc1 ((w.alloc (.cells #[.int .i64 a, .int .i64 b] 29)).alloc (.cells #[.int .i64 p.x, .int .i64 p.y, .int .i64 p.e] 26)) (.cells #[.int .i64 0, .int .i64 0, .int .i64 0] 26)
  have hxr := Box.new ((w.alloc (.cells #[.int .i64 a, .int .i64 b] 29)).alloc (.cells #[.int .i64 p.x, .int .i64 p.y, .int .i64 p.e] 26)) 26 #[.int .i64 0, .int .i64 0, .int .i64 0]
  rw [show ((w.alloc (.cells #[.int .i64 a, .int .i64 b] 29)).alloc (.cells #[.int .i64 p.x, .int .i64 p.y, .int .i64 p.e] 26)).heap.size = w.heap.size + 2 from by simp] at hxr
  replace h := Below.step h hA
  replace hxc := hxc.kept hA
  replace hxp := hxp.kept hA
  clear hA
  obtain ⟨kc0, kc1⟩ := hxc.two
  have lc := hxc.lt
  obtain ⟨kp0, kp1, kp2⟩ := hxp.three
  have lp := hxp.lt
  obtain ⟨kr0, kr1, kr2⟩ := hxr.three
  have lr := hxr.lt
  go_enter Tryd.func38, Tryd.ntmps38
  go_wp2_with fail
  refine (minusS_any p _ hy).mono ?_
  rintro e w1 ⟨rfl, hb⟩
  replace h := Below.step h hb
  replace hxc := hxc.kept hb
  replace hxp := hxp.kept hb
  replace hxr := hxr.kept hb
  clear hb kc0 kc1 lc kp0 kp1 kp2 lp kr0 kr1 kr2 lr
  obtain ⟨kc0, kc1⟩ := hxc.two
  have lc := hxc.lt
  obtain ⟨kp0, kp1, kp2⟩ := hxp.three
  have lp := hxp.lt
  obtain ⟨kr0, kr1, kr2⟩ := hxr.three
  have lr := hxr.lt
  have fp0 := hxp.free 0
  have fp1 := hxp.free 1
  have fp2 := hxp.free 2
  have hlr := hxr.lt
  go_wp2_with fail
  have hxo : Box ((((w1.setCell ⟨w.heap.size + 1, 0, none⟩ (.int .i64 p.x)).setCell ⟨w.heap.size + 1, 1, none⟩ (.int .i64 (-p.y))).setCell ⟨w.heap.size + 1, 2, none⟩ (.int .i64 p.e)).alloc (.cells #[.int .i64 0, .int .i64 0, .int .i64 0] 26)) w1.heap.size 26 #[.int .i64 0, .int .i64 0, .int .i64 0] := by have hb := Box.new (((w1.setCell ⟨w.heap.size + 1, 0, none⟩ (.int .i64 p.x)).setCell ⟨w.heap.size + 1, 1, none⟩ (.int .i64 (-p.y))).setCell ⟨w.heap.size + 1, 2, none⟩ (.int .i64 p.e)) 26 #[.int .i64 0, .int .i64 0, .int .i64 0]; rwa [show (((w1.setCell ⟨w.heap.size + 1, 0, none⟩ (.int .i64 p.x)).setCell ⟨w.heap.size + 1, 1, none⟩ (.int .i64 (-p.y))).setCell ⟨w.heap.size + 1, 2, none⟩ (.int .i64 p.e)).heap.size = w1.heap.size from by simp] at hb
  replace h : Below w.heap.size w ((((w1.setCell ⟨w.heap.size + 1, 0, none⟩ (.int .i64 p.x)).setCell ⟨w.heap.size + 1, 1, none⟩ (.int .i64 (-p.y))).setCell ⟨w.heap.size + 1, 2, none⟩ (.int .i64 p.e)).alloc (.cells #[.int .i64 0, .int .i64 0, .int .i64 0] 26)) := Below.step (below_sets3 h (by omega) _ _ _) (below_alloc1 _ _)
  replace hxc : Box ((((w1.setCell ⟨w.heap.size + 1, 0, none⟩ (.int .i64 p.x)).setCell ⟨w.heap.size + 1, 1, none⟩ (.int .i64 (-p.y))).setCell ⟨w.heap.size + 1, 2, none⟩ (.int .i64 p.e)).alloc (.cells #[.int .i64 0, .int .i64 0, .int .i64 0] 26)) _ _ _ := (hxc.off3 (by omega) _ _ _).kept (below_alloc1 _ _)
  replace hxr : Box ((((w1.setCell ⟨w.heap.size + 1, 0, none⟩ (.int .i64 p.x)).setCell ⟨w.heap.size + 1, 1, none⟩ (.int .i64 (-p.y))).setCell ⟨w.heap.size + 1, 2, none⟩ (.int .i64 p.e)).alloc (.cells #[.int .i64 0, .int .i64 0, .int .i64 0] 26)) _ _ _ := (hxr.off3 (by omega) _ _ _).kept (below_alloc1 _ _)
  replace hxp : Box ((((w1.setCell ⟨w.heap.size + 1, 0, none⟩ (.int .i64 p.x)).setCell ⟨w.heap.size + 1, 1, none⟩ (.int .i64 (-p.y))).setCell ⟨w.heap.size + 1, 2, none⟩ (.int .i64 p.e)).alloc (.cells #[.int .i64 0, .int .i64 0, .int .i64 0] 26)) _ _ _ := (hxp.set3 _ _ _).kept (below_alloc1 _ _)
  go_loopw [2] (fun n wr => ∃ (r : Nat) (s : P3), n = .int .i64 r ∧ Hid (∃ j, j + r = N ∧ mult a p.neg j = some s) ∧ Below w.heap.size w wr ∧ Box wr w.heap.size 29 #[.int .i64 a, .int .i64 b] ∧ Box wr (w.heap.size + 1) 26 #[.int .i64 p.x, .int .i64 (-p.y), .int .i64 p.e] ∧ Box wr (w.heap.size + 2) 26 #[.int .i64 0, .int .i64 0, .int .i64 0] ∧ Box wr w1.heap.size 26 #[.int .i64 s.x, .int .i64 s.y, .int .i64 s.e]) (fun n _ => (intOf n).toNat)
  case atStart => exact ⟨N, .zero, rfl, ⟨0, by omega, rfl⟩, h, hxc, hxp, hxr, hxo⟩
  case round =>
    obtain ⟨r, s, rfl, hm, h, hxc, hxp, hxr, hxo⟩ := hrel
    obtain ⟨j, hj, hs⟩ := hm.out
    have hon := mult_on hc gp hs
    rcases Nat.eq_zero_or_pos r with hr | hr
    · subst hr
      have he : Hid (mult a p.neg N = some s) := by rw [← hj]; exact hs
      clear hm hs hj hon c1
      obtain ⟨kc0, kc1⟩ := hxc.two
      have lc := hxc.lt
      obtain ⟨kp0, kp1, kp2⟩ := hxp.three
      have lp := hxp.lt
      obtain ⟨kr0, kr1, kr2⟩ := hxr.three
      have lr := hxr.lt
      obtain ⟨ko0, ko1, ko2⟩ := hxo.three
      have lo := hxo.lt
      have fr0 := hxr.free 0
      have fr1 := hxr.free 1
      have fr2 := hxr.free 2
      obtain ⟨sr0, sr1, sr2⟩ := (((hxr.set 0 (.int .i64 s.x)).set 1 (.int .i64 s.y)).set 2 (.int .i64 s.e)).three
      go_wp2_with fail
      rw [he.out]
      refine bodyPost_ret (v := .tuple #[.agg #[.int .i64 s.x, .int .i64 s.y, .int .i64 s.e], .bool true]) (by simp [results, Tryd.results38, go_sem, sr0, sr1, sr2]) (by rfl) ⟨by rfl, ?_⟩
      exact below_sets3 h (by omega) _ _ _
    · obtain ⟨r', rfl⟩ : ∃ r', r = r' + 1 := ⟨r - 1, by omega⟩
      clear hr hm
      have hr12 : (r' : Int) ≤ 1000 := by omega
      cases hq : addP a s p.neg with
      | none =>
        have he : Hid (mult a p.neg N = none) := by rw [← hj, show j + (r' + 1) = (j + 1) + r' from by omega]; exact mult_none (by rw [mult_step hs]; exact hq) r'
        have c2 : ∀ W : World, Calls Tryd.prog 32 #[.agg #[.int .i64 a, .int .i64 b], .agg #[.int .i64 s.x, .int .i64 s.y, .int .i64 s.e], .agg #[.int .i64 p.x, .int .i64 (-p.y), .int .i64 p.e]] W (GivesPB W 0 0 0 false) := fun W => by have := c1 s hon W; rw [hq] at this; exact this
        replace c2 := Lib.hid c2
        clear hq hs hj hon c1
        obtain ⟨kc0, kc1⟩ := hxc.two
        have lc := hxc.lt
        obtain ⟨kp0, kp1, kp2⟩ := hxp.three
        have lp := hxp.lt
        obtain ⟨kr0, kr1, kr2⟩ := hxr.three
        have lr := hxr.lt
        obtain ⟨ko0, ko1, ko2⟩ := hxo.three
        have lo := hxo.lt
        go_wp2_with fail
        refine (c2.out _).mono ?_
        rintro e w2 ⟨rfl, hb⟩
        replace h := Below.step h hb
        replace hxc := hxc.kept hb
        replace hxp := hxp.kept hb
        replace hxr := hxr.kept hb
        replace hxo := hxo.kept hb
        clear hb kc0 kc1 lc kp0 kp1 kp2 lp kr0 kr1 kr2 lr ko0 ko1 ko2 lo
        obtain ⟨kc0, kc1⟩ := hxc.two
        have lc := hxc.lt
        obtain ⟨kp0, kp1, kp2⟩ := hxp.three
        have lp := hxp.lt
        obtain ⟨kr0, kr1, kr2⟩ := hxr.three
        have lr := hxr.lt
        obtain ⟨ko0, ko1, ko2⟩ := hxo.three
        have lo := hxo.lt
        have fr0 := hxr.free 0
        have fr1 := hxr.free 1
        have fr2 := hxr.free 2
        obtain ⟨sr0, sr1, sr2⟩ := ((hxr.set3 (.int .i64 0) (.int .i64 0) (.int .i64 0)).kept (below_alloc1 _ (.cells #[.int .i64 0, .int .i64 0, .int .i64 0] 26))).three
        go_wp2_with fail
        rw [he.out]
        refine bodyPost_ret (v := .tuple #[.agg #[.int .i64 0, .int .i64 0, .int .i64 0], .bool false]) (by simp [results, Tryd.results38, go_sem, sr0, sr1, sr2]) (by rfl) ⟨by rfl, ?_⟩
        exact Below.step (below_sets3 h (by omega) _ _ _) (below_alloc1 _ _)
      | some s' =>
        have he : Hid (∃ j, j + r' = N ∧ mult a p.neg j = some s') := ⟨j + 1, by omega, by rw [mult_step hs]; exact hq⟩
        have c2 : ∀ W : World, Calls Tryd.prog 32 #[.agg #[.int .i64 a, .int .i64 b], .agg #[.int .i64 s.x, .int .i64 s.y, .int .i64 s.e], .agg #[.int .i64 p.x, .int .i64 (-p.y), .int .i64 p.e]] W (GivesPB W s'.x s'.y s'.e true) := fun W => by have := c1 s hon W; rw [hq] at this; exact this
        replace c2 := Lib.hid c2
        clear hq hs hj hon c1
        obtain ⟨kc0, kc1⟩ := hxc.two
        have lc := hxc.lt
        obtain ⟨kp0, kp1, kp2⟩ := hxp.three
        have lp := hxp.lt
        obtain ⟨kr0, kr1, kr2⟩ := hxr.three
        have lr := hxr.lt
        obtain ⟨ko0, ko1, ko2⟩ := hxo.three
        have lo := hxo.lt
        go_wp2_with fail
        refine (c2.out _).mono ?_
        rintro e w3 ⟨rfl, hb⟩
        replace h := Below.step h hb
        replace hxc := hxc.kept hb
        replace hxp := hxp.kept hb
        replace hxr := hxr.kept hb
        replace hxo := hxo.kept hb
        clear hb kc0 kc1 lc kp0 kp1 kp2 lp kr0 kr1 kr2 lr ko0 ko1 ko2 lo
        obtain ⟨kc0, kc1⟩ := hxc.two
        have lc := hxc.lt
        obtain ⟨kp0, kp1, kp2⟩ := hxp.three
        have lp := hxp.lt
        obtain ⟨kr0, kr1, kr2⟩ := hxr.three
        have lr := hxr.lt
        obtain ⟨ko0, ko1, ko2⟩ := hxo.three
        have lo := hxo.lt
        have fo0 := hxo.free 0
        have fo1 := hxo.free 1
        have fo2 := hxo.free 2
        go_wp2_with fail
        go_roundw
        case rel =>
          exact ⟨r', s', by go_num, he, Below.step (below_sets3 h (by omega) _ _ _) (below_alloc1 _ _), (hxc.off3 (by omega) _ _ _).kept (below_alloc1 _ _), (hxp.off3 (by omega) _ _ _).kept (below_alloc1 _ _), (hxr.off3 (by omega) _ _ _).kept (below_alloc1 _ _), (hxo.set3 _ _ _).kept (below_alloc1 _ _)⟩
        case measure => simp [intOf]


theorem ptTimes_any {a b : Int} (p : P3) (N : Nat) (w : World) (hN : N ≤ 1000) (hc : (-1000 ≤ a ∧ a ≤ 1000) ∧ (-10000 ≤ b ∧ b ≤ 10000)) (gp : PtOn a b p) : Calls Tryd.prog 38 #[.agg #[.int .i64 a, .int .i64 b], .agg #[.int .i64 p.x, .int .i64 p.y, .int .i64 p.e], .int .i64 (N : Int)] w (GivesO w (mult a p N)) :=
  ptTimes_pos a b p N w hN hc gp fun s hs W => ptAddS_any s p W hc hs gp
theorem ptTimes_minus {a b : Int} (p : P3) (N : Nat) (w : World) (hN : N ≤ 1000) (hN1 : 1 ≤ N) (hc : (-1000 ≤ a ∧ a ≤ 1000) ∧ (-10000 ≤ b ∧ b ≤ 10000)) (gp : PtOn a b p) : Calls Tryd.prog 38 #[.agg #[.int .i64 a, .int .i64 b], .agg #[.int .i64 p.x, .int .i64 p.y, .int .i64 p.e], .int .i64 (-(N : Int))] w (GivesO w (mult a p.neg N)) :=
  ptTimes_neg a b p N w hN hN1 (by have := gp.bd.2.2; omega) hc gp.neg fun s hs W => ptAddS_any s p.neg W hc hs gp.neg
end Go.Proofs.YtabcnkobojkdhaaDoor
