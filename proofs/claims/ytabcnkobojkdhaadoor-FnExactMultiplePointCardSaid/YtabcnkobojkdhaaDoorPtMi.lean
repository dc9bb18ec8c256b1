/- Several texts in one (own work). -/
import Derived.Test.YtabcnkobojkdhaaDoorPtMul
import Derived.Test.YtabcnkobojkdhaaDoorPtB
import Derived.Deep.RegionHeld3
import Derived.Deep.DeepCutAuto
import Derived.BigQuiet
import Derived.Test.YtabcnkobojkdhaaDoorPtAdd
import Derived.Test.YtabcnkobojkdhaaDoorPtGoto
import Derived.WalkMore
namespace Go.Proofs.YtabcnkobojkdhaaDoor
open Go.RowKit Go.Joins

set_option maxHeartbeats 1000000 in
set_option maxRecDepth 100000 in
theorem ptTimes_pos (a b : Int) (p : P3) (N : Nat) (w : World) (hN12 : N ≤ 1000) (hc : (-1000 ≤ a ∧ a ≤ 1000) ∧ (-10000 ≤ b ∧ b ≤ 10000)) (gp : PtOn a b p) (c1 : ∀ s : P3, PtOn a b s → ∀ W : World, Calls Tryd.prog 32 #[.agg #[.int .i64 a, .int .i64 b], .agg #[.int .i64 s.x, .int .i64 s.y, .int .i64 s.e], .agg #[.int .i64 p.x, .int .i64 p.y, .int .i64 p.e]] W (GivesO W (addP a s p))) : Calls Tryd.prog 38 #[.agg #[.int .i64 a, .int .i64 b], .agg #[.int .i64 p.x, .int .i64 p.y, .int .i64 p.e], .int .i64 N] w (GivesO w (mult a p N)) := by
  have h := Below.refl w.heap.size w
  have hA := below_alloc1 w (.cells #[.int .i64 a, .int .i64 b] 29)
  have hxc := Box.new w 29 #[.int .i64 a, .int .i64 b]
  replace h := Below.step h hA
  clear hA
  have hA := below_alloc1 (w.alloc (.cells #[.int .i64 a, .int .i64 b] 29)) (.cells #[.int .i64 p.x, .int .i64 p.y, .int .i64 p.e] 26)
  have hxp := Box.new (w.alloc (.cells #[.int .i64 a, .int .i64 b] 29)) 26 #[.int .i64 p.x, .int .i64 p.y, .int .i64 p.e]
  rw [show (w.alloc (.cells #[.int .i64 a, .int .i64 b] 29)).heap.size = w.heap.size + 1 from by simp] at hxp
  replace h := Below.step h hA
  replace hxc := hxc.kept hA
  clear hA
  have hA := below_alloc1 ((w.alloc (.cells #[.int .i64 a, .int .i64 b] 29)).alloc (.cells #[.int .i64 p.x, .int .i64 p.y, .int .i64 p.e] 26)) (.cells #[.int .i64 0, .int .i64 0, .int .i64 0] 26)
  have hxr := Box.new ((w.alloc (.cells #[.int .i64 a, .int .i64 b] 29)).alloc (.cells #[.int .i64 p.x, .int .i64 p.y, .int .i64 p.e] 26)) 26 #[.int .i64 0, .int .i64 0, .int .i64 0]
  rw [show ((w.alloc (.cells #[.int .i64 a, .int .i64 b] 29)).alloc (.cells #[.int .i64 p.x, .int .i64 p.y, .int .i64 p.e] 26)).heap.size = w.heap.size + 2 from by simp] at hxr
  replace h := Below.step h hA
  replace hxc := hxc.kept hA
  replace hxp := hxp.kept hA
  clear hA
  have hA := below_alloc1 (((w.alloc (.cells #[.int .i64 a, .int .i64 b] 29)).alloc (.cells #[.int .i64 p.x, .int .i64 p.y, .int .i64 p.e] 26)).alloc (.cells #[.int .i64 0, .int .i64 0, .int .i64 0] 26)) (.cells #[.int .i64 0, .int .i64 0, .int .i64 0] 26)
  have hxo := Box.new (((w.alloc (.cells #[.int .i64 a, .int .i64 b] 29)).alloc (.cells #[.int .i64 p.x, .int .i64 p.y, .int .i64 p.e] 26)).alloc (.cells #[.int .i64 0, .int .i64 0, .int .i64 0] 26)) 26 #[.int .i64 0, .int .i64 0, .int .i64 0]
  rw [show (((w.alloc (.cells #[.int .i64 a, .int .i64 b] 29)).alloc (.cells #[.int .i64 p.x, .int .i64 p.y, .int .i64 p.e] 26)).alloc (.cells #[.int .i64 0, .int .i64 0, .int .i64 0] 26)).heap.size = w.heap.size + 3 from by simp] at hxo
  replace h := Below.step h hA
  replace hxc := hxc.kept hA
  replace hxp := hxp.kept hA
  replace hxr := hxr.kept hA
  clear hA
  obtain ⟨kc0, kc1⟩ := hxc.two
  have lc := hxc.lt
  obtain ⟨kp0, kp1, kp2⟩ := hxp.three
  have lp := hxp.lt
  obtain ⟨kr0, kr1, kr2⟩ := hxr.three
  have lr := hxr.lt
  obtain ⟨ko0, ko1, ko2⟩ := hxo.three
  have lo := hxo.lt
  have hN : (0 : Int) ≤ N := by omega
  go_enter Tryd.func38, Tryd.ntmps38
  go_wp2_with fail
  go_loopw [2] (fun n wr => ∃ (r : Nat) (s : P3), n = .int .i64 r ∧ Hid (∃ j, j + r = N ∧ mult a p j = some s) ∧ Below w.heap.size w wr ∧ Box wr w.heap.size 29 #[.int .i64 a, .int .i64 b] ∧ Box wr (w.heap.size + 1) 26 #[.int .i64 p.x, .int .i64 p.y, .int .i64 p.e] ∧ Box wr (w.heap.size + 2) 26 #[.int .i64 0, .int .i64 0, .int .i64 0] ∧ Box wr (w.heap.size + 3) 26 #[.int .i64 s.x, .int .i64 s.y, .int .i64 s.e]) (fun n _ => (intOf n).toNat)
  case atStart => exact ⟨N, .zero, rfl, ⟨0, by omega, rfl⟩, h, hxc, hxp, hxr, hxo⟩
  case round =>
    clear h hxc hxp hxr hxo kc0 kc1 lc kp0 kp1 kp2 lp kr0 kr1 kr2 lr ko0 ko1 ko2 lo
    obtain ⟨r, s, rfl, hm, h, hxc, hxp, hxr, hxo⟩ := hrel
    obtain ⟨j, hj, hs⟩ := hm.out
    have hon := mult_on hc gp hs
    rcases Nat.eq_zero_or_pos r with hr | hr
    · subst hr
      have he : Hid (mult a p N = some s) := by rw [← hj]; exact hs
      clear hm hs hj hon c1
      obtain ⟨kc0, kc1⟩ := hxc.two
      have lc := hxc.lt
      obtain ⟨kp0, kp1, kp2⟩ := hxp.three
      have lp := hxp.lt
      obtain ⟨kr0, kr1, kr2⟩ := hxr.three
      have lr := hxr.lt
      obtain ⟨ko0, ko1, ko2⟩ := hxo.three
      have lo := hxo.lt
      have fr0 := hxr.free 0
      have fr1 := hxr.free 1
      have fr2 := hxr.free 2
      obtain ⟨sr0, sr1, sr2⟩ := (((hxr.set 0 (.int .i64 s.x)).set 1 (.int .i64 s.y)).set 2 (.int .i64 s.e)).three
      go_wp2_with fail
      rw [he.out]
      refine bodyPost_ret (v := .tuple #[.agg #[.int .i64 s.x, .int .i64 s.y, .int .i64 s.e], .bool true]) (by simp [results, Tryd.results38, go_sem, sr0, sr1, sr2]) (by rfl) ⟨by rfl, ?_⟩
      exact below_sets3 h (by omega) _ _ _
    · obtain ⟨r', rfl⟩ : ∃ r', r = r' + 1 := ⟨r - 1, by omega⟩
      clear hr hm
      have hr12 : (r' : Int) ≤ 1000 := by omega
      cases hq : addP a s p with
      | none =>
        have he : Hid (mult a p N = none) := by rw [← hj, show j + (r' + 1) = (j + 1) + r' from by omega]; exact mult_none (by rw [mult_step hs]; exact hq) r'
        have c2 : ∀ W : World, Calls Tryd.prog 32 #[.agg #[.int .i64 a, .int .i64 b], .agg #[.int .i64 s.x, .int .i64 s.y, .int .i64 s.e], .agg #[.int .i64 p.x, .int .i64 p.y, .int .i64 p.e]] W (GivesPB W 0 0 0 false) := fun W => by have := c1 s hon W; rw [hq] at this; exact this
        replace c2 := Lib.hid c2
        clear hq hs hj hon c1
        obtain ⟨kc0, kc1⟩ := hxc.two
        have lc := hxc.lt
        obtain ⟨kp0, kp1, kp2⟩ := hxp.three
        have lp := hxp.lt
        obtain ⟨kr0, kr1, kr2⟩ := hxr.three
        have lr := hxr.lt
        obtain ⟨ko0, ko1, ko2⟩ := hxo.three
        have lo := hxo.lt
        go_wp2_with fail
        refine (c2.out _).mono ?_
        rintro e w1 ⟨rfl, hb⟩
        replace h := Below.step h hb
        replace hxc := hxc.kept hb
        replace hxp := hxp.kept hb
        replace hxr := hxr.kept hb
        replace hxo := hxo.kept hb
        clear hb kc0 kc1 lc kp0 kp1 kp2 lp kr0 kr1 kr2 lr ko0 ko1 ko2 lo
        obtain ⟨kc0, kc1⟩ := hxc.two
        have lc := hxc.lt
        obtain ⟨kp0, kp1, kp2⟩ := hxp.three
        have lp := hxp.lt
        obtain ⟨kr0, kr1, kr2⟩ := hxr.three
        have lr := hxr.lt
        obtain ⟨ko0, ko1, ko2⟩ := hxo.three
        have lo := hxo.lt
        have fr0 := hxr.free 0
        have fr1 := hxr.free 1
        have fr2 := hxr.free 2
        obtain ⟨sr0, sr1, sr2⟩ := ((hxr.set3 (.int .i64 0) (.int .i64 0) (.int .i64 0)).kept (below_alloc1 _ (.cells #[.int .i64 0, .int .i64 0, .int .i64 0] 26))).three
        go_wp2_with fail
        rw [he.out]
        refine bodyPost_ret (v := .tuple #[.agg #[.int .i64 0, .int .i64 0, .int .i64 0], .bool false]) (by simp [results, Tryd.results38, go_sem, sr0, sr1, sr2]) (by rfl) ⟨by rfl, ?_⟩
        exact Below.step (below_sets3 h (by omega) _ _ _) (below_alloc1 _ _)
      | some s' =>
        have he : Hid (∃ j, j + r' = N ∧ mult a p j = some s') := ⟨j + 1, by omega, by rw [mult_step hs]; exact hq⟩
        have c2 : ∀ W : World, Calls Tryd.prog 32 #[.agg #[.int .i64 a, .int .i64 b], .agg #[.int .i64 s.x, .int .i64 s.y, .int .i64 s.e], .agg #[.int .i64 p.x, .int .i64 p.y, .int .i64 p.e]] W (GivesPB W s'.x s'.y s'.e true) := fun W => by have := c1 s hon W; rw [hq] at this; exact this
        replace c2 := Lib.hid c2
        clear hq hs hj hon c1
        obtain ⟨kc0, kc1⟩ := hxc.two
        have lc := hxc.lt
        obtain ⟨kp0, kp1, kp2⟩ := hxp.three
        have lp := hxp.lt
        obtain ⟨kr0, kr1, kr2⟩ := hxr.three
        have lr := hxr.lt
        obtain ⟨ko0, ko1, ko2⟩ := hxo.three
        have lo := hxo.lt
        go_wp2_with fail
        refine (c2.out _).mono ?_
        rintro e w2 ⟨rfl, hb⟩
        replace h := Below.step h hb
        replace hxc := hxc.kept hb
        replace hxp := hxp.kept hb
        replace hxr := hxr.kept hb
        replace hxo := hxo.kept hb
        clear hb kc0 kc1 lc kp0 kp1 kp2 lp kr0 kr1 kr2 lr ko0 ko1 ko2 lo
        obtain ⟨kc0, kc1⟩ := hxc.two
        have lc := hxc.lt
        obtain ⟨kp0, kp1, kp2⟩ := hxp.three
        have lp := hxp.lt
        obtain ⟨kr0, kr1, kr2⟩ := hxr.three
        have lr := hxr.lt
        obtain ⟨ko0, ko1, ko2⟩ := hxo.three
        have lo := hxo.lt
        have fo0 := hxo.free 0
        have fo1 := hxo.free 1
        have fo2 := hxo.free 2
        go_wp2_with fail
        go_roundw
        case rel =>
          exact ⟨r', s', by go_num, he, Below.step (below_sets3 h (by omega) _ _ _) (below_alloc1 _ _), (hxc.off3 (by omega) _ _ _).kept (below_alloc1 _ _), (hxp.off3 (by omega) _ _ _).kept (below_alloc1 _ _), (hxr.off3 (by omega) _ _ _).kept (below_alloc1 _ _), (hxo.set3 _ _ _).kept (below_alloc1 _ _)⟩
        case measure => simp [intOf]


set_option maxHeartbeats 1000000 in
set_option maxRecDepth 100000 in
theorem ptTimes_neg (a b : Int) (p : P3) (N : Nat) (w : World) (hN12 : N ≤ 1000) (hN1 : 1 ≤ N) (hy : -9223372036854775807 ≤ p.y ∧ p.y ≤ 9223372036854775807) (hc : (-1000 ≤ a ∧ a ≤ 1000) ∧ (-10000 ≤ b ∧ b ≤ 10000)) (gp : PtOn a b p.neg) (c1 : ∀ s : P3, PtOn a b s → ∀ W : World, Calls Tryd.prog 32 #[.agg #[.int .i64 a, .int .i64 b], .agg #[.int .i64 s.x, .int .i64 s.y, .int .i64 s.e], .agg #[.int .i64 p.x, .int .i64 (-p.y), .int .i64 p.e]] W (GivesO W (addP a s p.neg))) : Calls Tryd.prog 38 #[.agg #[.int .i64 a, .int .i64 b], .agg #[.int .i64 p.x, .int .i64 p.y, .int .i64 p.e], .int .i64 (-(N : Int))] w (GivesO w (mult a p.neg N)) := by
  have hN : (1 : Int) ≤ N := by omega
  have h := Below.refl w.heap.size w
  have hA := below_alloc1 w (.cells #[.int .i64 a, .int .i64 b] 29)
  have hxc := Box.new w 29 #[.int .i64 a, .int .i64 b]
  replace h := Below.step h hA
  clear hA
  have hA := below_alloc1 (w.alloc (.cells #[.int .i64 a, .int .i64 b] 29)) (.cells #[.int .i64 p.x, .int .i64 p.y, .int .i64 p.e] 26)
  have hxp := Box.new (w.alloc (.cells #[.int .i64 a, .int .i64 b] 29)) 26 #[.int .i64 p.x, .int .i64 p.y, .int .i64 p.e]
  rw [show (w.alloc (.cells #[.int .i64 a, .int .i64 b] 29)).heap.size = w.heap.size + 1 from by simp] at hxp
  replace h := Below.step h hA
  replace hxc := hxc.kept hA
  clear hA
  have hA := below_alloc1 ((w.alloc (.cells #[.int .i64 a, .int .i64 b] 29)).alloc (.cells #[.int .i64 p.x, .int .i64 p.y, .int .i64 p.e] 26)) (.cells #[.int .i64 0, .int .i64 0, .int .i64 0] 26)
  have hxr := Box.new ((w.alloc (.cells #[.int .i64 a, .int .i64 b] 29)).alloc (.cells #[.int .i64 p.x, .int .i64 p.y, .int .i64 p.e] 26)) 26 #[.int .i64 0, .int .i64 0, .int .i64 0]
  rw [show ((w.alloc (.cells #[.int .i64 a, .int .i64 b] 29)).alloc (.cells #[.int .i64 p.x, .int .i64 p.y, .int .i64 p.e] 26)).heap.size = w.heap.size + 2 from by simp] at hxr
  replace h := Below.step h hA
  replace hxc := hxc.kept hA
  replace hxp := hxp.kept hA
  clear hA
  obtain ⟨kc0, kc1⟩ := hxc.two
  have lc := hxc.lt
  obtain ⟨kp0, kp1, kp2⟩ := hxp.three
  have lp := hxp.lt
  obtain ⟨kr0, kr1, kr2⟩ := hxr.three
  have lr := hxr.lt
  go_enter Tryd.func38, Tryd.ntmps38
  go_wp2_with fail
  refine (minusS_any p _ hy).mono ?_
  rintro e w1 ⟨rfl, hb⟩
  replace h := Below.step h hb
  replace hxc := hxc.kept hb
  replace hxp := hxp.kept hb
  replace hxr := hxr.kept hb
  clear hb kc0 kc1 lc kp0 kp1 kp2 lp kr0 kr1 kr2 lr
  obtain ⟨kc0, kc1⟩ := hxc.two
  have lc := hxc.lt
  obtain ⟨kp0, kp1, kp2⟩ := hxp.three
  have lp := hxp.lt
  obtain ⟨kr0, kr1, kr2⟩ := hxr.three
  have lr := hxr.lt
  have fp0 := hxp.free 0
  have fp1 := hxp.free 1
  have fp2 := hxp.free 2
  have hlr := hxr.lt
  go_wp2_with fail
  have hxo : Box ((((w1.setCell ⟨w.heap.size + 1, 0, none⟩ (.int .i64 p.x)).setCell ⟨w.heap.size + 1, 1, none⟩ (.int .i64 (-p.y))).setCell ⟨w.heap.size + 1, 2, none⟩ (.int .i64 p.e)).alloc (.cells #[.int .i64 0, .int .i64 0, .int .i64 0] 26)) w1.heap.size 26 #[.int .i64 0, .int .i64 0, .int .i64 0] := by have hb := Box.new (((w1.setCell ⟨w.heap.size + 1, 0, none⟩ (.int .i64 p.x)).setCell ⟨w.heap.size + 1, 1, none⟩ (.int .i64 (-p.y))).setCell ⟨w.heap.size + 1, 2, none⟩ (.int .i64 p.e)) 26 #[.int .i64 0, .int .i64 0, .int .i64 0]; rwa [show (((w1.setCell ⟨w.heap.size + 1, 0, none⟩ (.int .i64 p.x)).setCell ⟨w.heap.size + 1, 1, none⟩ (.int .i64 (-p.y))).setCell ⟨w.heap.size + 1, 2, none⟩ (.int .i64 p.e)).heap.size = w1.heap.size from by simp] at hb
  replace h : Below w.heap.size w ((((w1.setCell ⟨w.heap.size + 1, 0, none⟩ (.int .i64 p.x)).setCell ⟨w.heap.size + 1, 1, none⟩ (.int .i64 (-p.y))).setCell ⟨w.heap.size + 1, 2, none⟩ (.int .i64 p.e)).alloc (.cells #[.int .i64 0, .int .i64 0, .int .i64 0] 26)) := Below.step (below_sets3 h (by omega) _ _ _) (below_alloc1 _ _)
  replace hxc : Box ((((w1.setCell ⟨w.heap.size + 1, 0, none⟩ (.int .i64 p.x)).setCell ⟨w.heap.size + 1, 1, none⟩ (.int .i64 (-p.y))).setCell ⟨w.heap.size + 1, 2, none⟩ (.int .i64 p.e)).alloc (.cells #[.int .i64 0, .int .i64 0, .int .i64 0] 26)) _ _ _ := (hxc.off3 (by omega) _ _ _).kept (below_alloc1 _ _)
  replace hxr : Box ((((w1.setCell ⟨w.heap.size + 1, 0, none⟩ (.int .i64 p.x)).setCell ⟨w.heap.size + 1, 1, none⟩ (.int .i64 (-p.y))).setCell ⟨w.heap.size + 1, 2, none⟩ (.int .i64 p.e)).alloc (.cells #[.int .i64 0, .int .i64 0, .int .i64 0] 26)) _ _ _ := (hxr.off3 (by omega) _ _ _).kept (below_alloc1 _ _)
  replace hxp : Box ((((w1.setCell ⟨w.heap.size + 1, 0, none⟩ (.int .i64 p.x)).setCell ⟨w.heap.size + 1, 1, none⟩ (.int .i64 (-p.y))).setCell ⟨w.heap.size + 1, 2, none⟩ (.int .i64 p.e)).alloc (.cells #[.int .i64 0, .int .i64 0, .int .i64 0] 26)) _ _ _ := (hxp.set3 _ _ _).kept (below_alloc1 _ _)
  go_loopw [2] (fun n wr => ∃ (r : Nat) (s : P3), n = .int .i64 r ∧ Hid (∃ j, j + r = N ∧ mult a p.neg j = some s) ∧ Below w.heap.size w wr ∧ Box wr w.heap.size 29 #[.int .i64 a, .int .i64 b] ∧ Box wr (w.heap.size + 1) 26 #[.int .i64 p.x, .int .i64 (-p.y), .int .i64 p.e] ∧ Box wr (w.heap.size + 2) 26 #[.int .i64 0, .int .i64 0, .int .i64 0] ∧ Box wr w1.heap.size 26 #[.int .i64 s.x, .int .i64 s.y, .int .i64 s.e]) (fun n _ => (intOf n).toNat)
  case atStart => exact ⟨N, .zero, rfl, ⟨0, by omega, rfl⟩, h, hxc, hxp, hxr, hxo⟩
  case round =>
    obtain ⟨r, s, rfl, hm, h, hxc, hxp, hxr, hxo⟩ := hrel
    obtain ⟨j, hj, hs⟩ := hm.out
    have hon := mult_on hc gp hs
    rcases Nat.eq_zero_or_pos r with hr | hr
    · subst hr
      have he : Hid (mult a p.neg N = some s) := by rw [← hj]; exact hs
      clear hm hs hj hon c1
      obtain ⟨kc0, kc1⟩ := hxc.two
      have lc := hxc.lt
      obtain ⟨kp0, kp1, kp2⟩ := hxp.three
      have lp := hxp.lt
      obtain ⟨kr0, kr1, kr2⟩ := hxr.three
      have lr := hxr.lt
      obtain ⟨ko0, ko1, ko2⟩ := hxo.three
      have lo := hxo.lt
      have fr0 := hxr.free 0
      have fr1 := hxr.free 1
      have fr2 := hxr.free 2
      obtain ⟨sr0, sr1, sr2⟩ := (((hxr.set 0 (.int .i64 s.x)).set 1 (.int .i64 s.y)).set 2 (.int .i64 s.e)).three
      go_wp2_with fail
      rw [he.out]
      refine bodyPost_ret (v := .tuple #[.agg #[.int .i64 s.x, .int .i64 s.y, .int .i64 s.e], .bool true]) (by simp [results, Tryd.results38, go_sem, sr0, sr1, sr2]) (by rfl) ⟨by rfl, ?_⟩
      exact below_sets3 h (by omega) _ _ _
    · obtain ⟨r', rfl⟩ : ∃ r', r = r' + 1 := ⟨r - 1, by omega⟩
      clear hr hm
      have hr12 : (r' : Int) ≤ 1000 := by omega
      cases hq : addP a s p.neg with
      | none =>
        have he : Hid (mult a p.neg N = none) := by rw [← hj, show j + (r' + 1) = (j + 1) + r' from by omega]; exact mult_none (by rw [mult_step hs]; exact hq) r'
        have c2 : ∀ W : World, Calls Tryd.prog 32 #[.agg #[.int .i64 a, .int .i64 b], .agg #[.int .i64 s.x, .int .i64 s.y, .int .i64 s.e], .agg #[.int .i64 p.x, .int .i64 (-p.y), .int .i64 p.e]] W (GivesPB W 0 0 0 false) := fun W => by have := c1 s hon W; rw [hq] at this; exact this
        replace c2 := Lib.hid c2
        clear hq hs hj hon c1
        obtain ⟨kc0, kc1⟩ := hxc.two
        have lc := hxc.lt
        obtain ⟨kp0, kp1, kp2⟩ := hxp.three
        have lp := hxp.lt
        obtain ⟨kr0, kr1, kr2⟩ := hxr.three
        have lr := hxr.lt
        obtain ⟨ko0, ko1, ko2⟩ := hxo.three
        have lo := hxo.lt
        go_wp2_with fail
        refine (c2.out _).mono ?_
        rintro e w2 ⟨rfl, hb⟩
        replace h := Below.step h hb
        replace hxc := hxc.kept hb
        replace hxp := hxp.kept hb
        replace hxr := hxr.kept hb
        replace hxo := hxo.kept hb
        clear hb kc0 kc1 lc kp0 kp1 kp2 lp kr0 kr1 kr2 lr ko0 ko1 ko2 lo
        obtain ⟨kc0, kc1⟩ := hxc.two
        have lc := hxc.lt
        obtain ⟨kp0, kp1, kp2⟩ := hxp.three
        have lp := hxp.lt
        obtain ⟨kr0, kr1, kr2⟩ := hxr.three
        have lr := hxr.lt
        obtain ⟨ko0, ko1, ko2⟩ := hxo.three
        have lo := hxo.lt
        have fr0 := hxr.free 0
        have fr1 := hxr.free 1
        have fr2 := hxr.free 2
        obtain ⟨sr0, sr1, sr2⟩ := ((hxr.set3 (.int .i64 0) (.int .i64 0) (.int .i64 0)).kept (below_alloc1 _ (.cells #[.int .i64 0, .int .i64 0, .int .i64 0] 26))).three
        go_wp2_with fail
        rw [he.out]
        refine bodyPost_ret (v := .tuple #[.agg #[.int .i64 0, .int .i64 0, .int .i64 0], .bool false]) (by simp [results, Tryd.results38, go_sem, sr0, sr1, sr2]) (by rfl) ⟨by rfl, ?_⟩
        exact Below.step (below_sets3 h (by omega) _ _ _) (below_alloc1 _ _)
      | some s' =>
        have he : Hid (∃ j, j + r' = N ∧ mult a p.neg j = some s') := ⟨j + 1, by omega, by rw [mult_step hs]; exact hq⟩
        have c2 : ∀ W : World, Calls Tryd.prog 32 #[.agg #[.int .i64 a, .int .i64 b], .agg #[.int .i64 s.x, .int .i64 s.y, .int .i64 s.e], .agg #[.int .i64 p.x, .int .i64 (-p.y), .int .i64 p.e]] W (GivesPB W s'.x s'.y s'.e true) := fun W => by have := c1 s hon W; rw [hq] at this; exact this
        replace c2 := Lib.hid c2
        clear hq hs hj hon c1
        obtain ⟨kc0, kc1⟩ := hxc.two
        have lc := hxc.lt
        obtain ⟨kp0, kp1, kp2⟩ := hxp.three
        have lp := hxp.lt
        obtain ⟨kr0, kr1, kr2⟩ := hxr.three
        have lr := hxr.lt
        obtain ⟨ko0, ko1, ko2⟩ := hxo.three
        have lo := hxo.lt
        go_wp2_with fail
        refine (c2.out _).mono ?_
        rintro e w3 ⟨rfl, hb⟩
        replace h := Below.step h hb
        replace hxc := hxc.kept hb
        replace hxp := hxp.kept hb
        replace hxr := hxr.kept hb
        replace hxo := hxo.kept hb
        clear hb kc0 kc1 lc kp0 kp1 kp2 lp kr0 kr1 kr2 lr ko0 ko1 ko2 lo
        obtain ⟨kc0, kc1⟩ := hxc.two
        have lc := hxc.lt
        obtain ⟨kp0, kp1, kp2⟩ := hxp.three
        have lp := hxp.lt
        obtain ⟨kr0, kr1, kr2⟩ := hxr.three
        have lr := hxr.lt
        obtain ⟨ko0, ko1, ko2⟩ := hxo.three
        have lo := hxo.lt
        have fo0 := hxo.free 0
        have fo1 := hxo.free 1
        have fo2 := hxo.free 2
        go_wp2_with fail
        go_roundw
        case rel =>
          exact ⟨r', s', by go_num, he, Below.step (below_sets3 h (by omega) _ _ _) (below_alloc1 _ _), (hxc.off3 (by omega) _ _ _).kept (below_alloc1 _ _), (hxp.off3 (by omega) _ _ _).kept (below_alloc1 _ _), (hxr.off3 (by omega) _ _ _).kept (below_alloc1 _ _), (hxo.set3 _ _ _).kept (below_alloc1 _ _)⟩
        case measure => simp [intOf]


theorem ptTimes_any {a b : Int} (p : P3) (N : Nat) (w : World) (hN : N ≤ 1000) (hc : (-1000 ≤ a ∧ a ≤ 1000) ∧ (-10000 ≤ b ∧ b ≤ 10000)) (gp : PtOn a b p) : Calls Tryd.prog 38 #[.agg #[.int .i64 a, .int .i64 b], .agg #[.int .i64 p.x, .int .i64 p.y, .int .i64 p.e], .int .i64 (N : Int)] w (GivesO w (mult a p N)) :=
  ptTimes_pos a b p N w hN hc gp fun s hs W => ptAddS_any s p W hc hs gp
theorem ptTimes_minus {a b : Int} (p : P3) (N : Nat) (w : World) (hN : N ≤ 1000) (hN1 : 1 ≤ N) (hc : (-1000 ≤ a ∧ a ≤ 1000) ∧ (-10000 ≤ b ∧ b ≤ 10000)) (gp : PtOn a b p) : Calls Tryd.prog 38 #[.agg #[.int .i64 a, .int .i64 b], .agg #[.int .i64 p.x, .int .i64 p.y, .int .i64 p.e], .int .i64 (-(N : Int))] w (GivesO w (mult a p.neg N)) :=
  ptTimes_neg a b p N w hN hN1 (by have := gp.bd.2.2; omega) hc gp.neg fun s hs W => ptAddS_any s p.neg W hc hs gp.neg
end Go.Proofs.YtabcnkobojkdhaaDoor

namespace Go.Proofs.YtabcnkobojkdhaaDoor
open Go.RowKit Go.Joins

set_option maxHeartbeats 1000000 in
set_option maxRecDepth 100000 in
theorem mulS_off (a b : Int) (p : P3) (n : Int) (w : World) (g : ¬ PtG a b p) : Calls Tryd.prog 17 #[.agg #[.int .i64 a, .int .i64 b], .agg #[.int .i64 p.x, .int .i64 p.y, .int .i64 p.e], .int .i64 n] w (GivesPB w 0 0 0 false) := by
  have h := Below.refl w.heap.size w
  have hA := below_alloc1 w (.cells #[.int .i64 a, .int .i64 b] 29)
  have hxc := Box.new w 29 #[.int .i64 a, .int .i64 b]
  replace h := Below.step h hA
  clear hA
  have hA := below_alloc1 (w.alloc (.cells #[.int .i64 a, .int .i64 b] 29)) (.cells #[.int .i64 p.x, .int .i64 p.y, .int .i64 p.e] 26)
  have hxp := Box.new (w.alloc (.cells #[.int .i64 a, .int .i64 b] 29)) 26 #[.int .i64 p.x, .int .i64 p.y, .int .i64 p.e]
  rw [show (w.alloc (.cells #[.int .i64 a, .int .i64 b] 29)).heap.size = w.heap.size + 1 from by simp] at hxp
  replace h := Below.step h hA
  replace hxc := hxc.kept hA
  clear hA
  have hA := below_alloc1 ((w.alloc (.cells #[.int .i64 a, .int .i64 b] 29)).alloc (.cells #[.int .i64 p.x, .int .i64 p.y, .int .i64 p.e] 26)) (.cells #[.int .i64 0, .int .i64 0, .int .i64 0] 26)
  have hxr := Box.new ((w.alloc (.cells #[.int .i64 a, .int .i64 b] 29)).alloc (.cells #[.int .i64 p.x, .int .i64 p.y, .int .i64 p.e] 26)) 26 #[.int .i64 0, .int .i64 0, .int .i64 0]
  rw [show ((w.alloc (.cells #[.int .i64 a, .int .i64 b] 29)).alloc (.cells #[.int .i64 p.x, .int .i64 p.y, .int .i64 p.e] 26)).heap.size = w.heap.size + 2 from by simp] at hxr
  replace h := Below.step h hA
  replace hxc := hxc.kept hA
  replace hxp := hxp.kept hA
  clear hA
  obtain ⟨kc0, kc1⟩ := hxc.two
  have lc := hxc.lt
  obtain ⟨kp0, kp1, kp2⟩ := hxp.three
  have lp := hxp.lt
  obtain ⟨kr0, kr1, kr2⟩ := hxr.three
  have lr := hxr.lt
  go_enter Tryd.func17, Tryd.ntmps17
  go_wp2_with fail
  refine (isPtS_off a b p _ g).mono ?_
  rintro e w1 ⟨rfl, hb⟩
  replace h := Below.step h hb
  replace hxc := hxc.kept hb
  replace hxp := hxp.kept hb
  replace hxr := hxr.kept hb
  clear hb kc0 kc1 lc kp0 kp1 kp2 lp kr0 kr1 kr2 lr
  obtain ⟨kc0, kc1⟩ := hxc.two
  have lc := hxc.lt
  obtain ⟨kp0, kp1, kp2⟩ := hxp.three
  have lp := hxp.lt
  obtain ⟨kr0, kr1, kr2⟩ := hxr.three
  have lr := hxr.lt
  have fr0 := hxr.free 0
  have fr1 := hxr.free 1
  have fr2 := hxr.free 2
  obtain ⟨sr0, sr1, sr2⟩ := (((hxr.set 0 (.int .i64 0)).set 1 (.int .i64 0)).set 2 (.int .i64 0)).three
  go_wp2_with fail
  refine bodyPost_ret (v := .tuple #[.agg #[.int .i64 0, .int .i64 0, .int .i64 0], .bool false]) (by simp [results, Tryd.results17, go_sem, sr0, sr1, sr2]) (by rfl) ⟨by rfl, ?_⟩
  exact below_sets3 h (by omega) _ _ _


set_option maxHeartbeats 1000000 in
set_option maxRecDepth 100000 in
theorem mulS_far (a b : Int) (p : P3) (n : Int) (w : World) (g : PtG a b p) (hn : n < -12 ∨ 12 < n) : Calls Tryd.prog 17 #[.agg #[.int .i64 a, .int .i64 b], .agg #[.int .i64 p.x, .int .i64 p.y, .int .i64 p.e], .int .i64 n] w (GivesPB w 0 0 0 false) := by
  replace hn := Lib.hid hn
  have h := Below.refl w.heap.size w
  have hA := below_alloc1 w (.cells #[.int .i64 a, .int .i64 b] 29)
  have hxc := Box.new w 29 #[.int .i64 a, .int .i64 b]
  replace h := Below.step h hA
  clear hA
  have hA := below_alloc1 (w.alloc (.cells #[.int .i64 a, .int .i64 b] 29)) (.cells #[.int .i64 p.x, .int .i64 p.y, .int .i64 p.e] 26)
  have hxp := Box.new (w.alloc (.cells #[.int .i64 a, .int .i64 b] 29)) 26 #[.int .i64 p.x, .int .i64 p.y, .int .i64 p.e]
  rw [show (w.alloc (.cells #[.int .i64 a, .int .i64 b] 29)).heap.size = w.heap.size + 1 from by simp] at hxp
  replace h := Below.step h hA
  replace hxc := hxc.kept hA
  clear hA
  have hA := below_alloc1 ((w.alloc (.cells #[.int .i64 a, .int .i64 b] 29)).alloc (.cells #[.int .i64 p.x, .int .i64 p.y, .int .i64 p.e] 26)) (.cells #[.int .i64 0, .int .i64 0, .int .i64 0] 26)
  have hxr := Box.new ((w.alloc (.cells #[.int .i64 a, .int .i64 b] 29)).alloc (.cells #[.int .i64 p.x, .int .i64 p.y, .int .i64 p.e] 26)) 26 #[.int .i64 0, .int .i64 0, .int .i64 0]
  rw [show ((w.alloc (.cells #[.int .i64 a, .int .i64 b] 29)).alloc (.cells #[.int .i64 p.x, .int .i64 p.y, .int .i64 p.e] 26)).heap.size = w.heap.size + 2 from by simp] at hxr
  replace h := Below.step h hA
  replace hxc := hxc.kept hA
  replace hxp := hxp.kept hA
  clear hA
  obtain ⟨kc0, kc1⟩ := hxc.two
  have lc := hxc.lt
  obtain ⟨kp0, kp1, kp2⟩ := hxp.three
  have lp := hxp.lt
  obtain ⟨kr0, kr1, kr2⟩ := hxr.three
  have lr := hxr.lt
  go_enter Tryd.func17, Tryd.ntmps17
  go_wp2_with fail
  refine (isPtS_on a b p _ g).mono ?_
  rintro e w1 ⟨rfl, hb⟩
  replace h := Below.step h hb
  replace hxc := hxc.kept hb
  replace hxp := hxp.kept hb
  replace hxr := hxr.kept hb
  clear hb kc0 kc1 lc kp0 kp1 kp2 lp kr0 kr1 kr2 lr
  obtain ⟨kc0, kc1⟩ := hxc.two
  have lc := hxc.lt
  obtain ⟨kp0, kp1, kp2⟩ := hxp.three
  have lp := hxp.lt
  obtain ⟨kr0, kr1, kr2⟩ := hxr.three
  have lr := hxr.lt
  go_wp2_with fail
  have fr0 := hxr.free 0
  have fr1 := hxr.free 1
  have fr2 := hxr.free 2
  obtain ⟨sr0, sr1, sr2⟩ := (((hxr.set 0 (.int .i64 0)).set 1 (.int .i64 0)).set 2 (.int .i64 0)).three
  refine (l1In_no n (-12) 12 _ hn.out).mono ?_
  rintro e w2 ⟨rfl, rfl⟩
  go_wp2_with fail
  refine bodyPost_ret (v := .tuple #[.agg #[.int .i64 0, .int .i64 0, .int .i64 0], .bool false]) (by simp [results, Tryd.results17, go_sem, sr0, sr1, sr2]) (by rfl) ⟨by rfl, ?_⟩
  exact below_sets3 h (by omega) _ _ _


set_option maxHeartbeats 1000000 in
set_option maxRecDepth 100000 in
theorem mulS_c (a b : Int) (p : P3) (n : Int) (w : World) (g : PtG a b p) (h1 : -12 ≤ n) (h2 : n ≤ 12) (x y u : Int) (ok : Bool) (c1 : ∀ W : World, Calls Tryd.prog 38 #[.agg #[.int .i64 a, .int .i64 b], .agg #[.int .i64 p.x, .int .i64 p.y, .int .i64 p.e], .int .i64 n] W (GivesPB W x y u ok)) : Calls Tryd.prog 17 #[.agg #[.int .i64 a, .int .i64 b], .agg #[.int .i64 p.x, .int .i64 p.y, .int .i64 p.e], .int .i64 n] w (GivesPB w x y u ok) := by
  have cp := fun W => isPtS_on a b p W g
  replace cp := Lib.hid cp
  replace c1 := Lib.hid c1
  clear g
  have h := Below.refl w.heap.size w
  have hA := below_alloc1 w (.cells #[.int .i64 a, .int .i64 b] 29)
  have hxc := Box.new w 29 #[.int .i64 a, .int .i64 b]
  replace h := Below.step h hA
  clear hA
  have hA := below_alloc1 (w.alloc (.cells #[.int .i64 a, .int .i64 b] 29)) (.cells #[.int .i64 p.x, .int .i64 p.y, .int .i64 p.e] 26)
  have hxp := Box.new (w.alloc (.cells #[.int .i64 a, .int .i64 b] 29)) 26 #[.int .i64 p.x, .int .i64 p.y, .int .i64 p.e]
  rw [show (w.alloc (.cells #[.int .i64 a, .int .i64 b] 29)).heap.size = w.heap.size + 1 from by simp] at hxp
  replace h := Below.step h hA
  replace hxc := hxc.kept hA
  clear hA
  have hA := below_alloc1 ((w.alloc (.cells #[.int .i64 a, .int .i64 b] 29)).alloc (.cells #[.int .i64 p.x, .int .i64 p.y, .int .i64 p.e] 26)) (.cells #[.int .i64 0, .int .i64 0, .int .i64 0] 26)
  have hxr := Box.new ((w.alloc (.cells #[.int .i64 a, .int .i64 b] 29)).alloc (.cells #[.int .i64 p.x, .int .i64 p.y, .int .i64 p.e] 26)) 26 #[.int .i64 0, .int .i64 0, .int .i64 0]
  rw [show ((w.alloc (.cells #[.int .i64 a, .int .i64 b] 29)).alloc (.cells #[.int .i64 p.x, .int .i64 p.y, .int .i64 p.e] 26)).heap.size = w.heap.size + 2 from by simp] at hxr
  replace h := Below.step h hA
  replace hxc := hxc.kept hA
  replace hxp := hxp.kept hA
  clear hA
  obtain ⟨kc0, kc1⟩ := hxc.two
  have lc := hxc.lt
  obtain ⟨kp0, kp1, kp2⟩ := hxp.three
  have lp := hxp.lt
  obtain ⟨kr0, kr1, kr2⟩ := hxr.three
  have lr := hxr.lt
  go_enter Tryd.func17, Tryd.ntmps17
  go_wp2_with fail
  refine (cp.out _).mono ?_
  rintro e w1 ⟨rfl, hb⟩
  replace h := Below.step h hb
  replace hxc := hxc.kept hb
  replace hxp := hxp.kept hb
  replace hxr := hxr.kept hb
  clear hb kc0 kc1 lc kp0 kp1 kp2 lp kr0 kr1 kr2 lr
  obtain ⟨kc0, kc1⟩ := hxc.two
  have lc := hxc.lt
  obtain ⟨kp0, kp1, kp2⟩ := hxp.three
  have lp := hxp.lt
  obtain ⟨kr0, kr1, kr2⟩ := hxr.three
  have lr := hxr.lt
  go_wp2_with fail
  refine (l1In_yes n (-12) 12 _ h1 h2).mono ?_
  rintro e w2 ⟨rfl, rfl⟩
  go_wp2_with fail
  refine (c1.out _).mono ?_
  rintro e w3 ⟨rfl, hb⟩
  replace h := Below.step h hb
  replace hxc := hxc.kept hb
  replace hxp := hxp.kept hb
  replace hxr := hxr.kept hb
  clear hb kc0 kc1 lc kp0 kp1 kp2 lp kr0 kr1 kr2 lr
  obtain ⟨kc0, kc1⟩ := hxc.two
  have lc := hxc.lt
  obtain ⟨kp0, kp1, kp2⟩ := hxp.three
  have lp := hxp.lt
  obtain ⟨kr0, kr1, kr2⟩ := hxr.three
  have lr := hxr.lt
  have fr0 := hxr.free 0
  have fr1 := hxr.free 1
  have fr2 := hxr.free 2
  obtain ⟨sr0, sr1, sr2⟩ := (((hxr.set 0 (.int .i64 x)).set 1 (.int .i64 y)).set 2 (.int .i64 u)).three
  go_wp2_with fail
  refine bodyPost_ret (v := .tuple #[.agg #[.int .i64 x, .int .i64 y, .int .i64 u], .bool ok]) (by simp [results, Tryd.results17, go_sem, sr0, sr1, sr2]) (by rfl) ⟨by rfl, ?_⟩
  exact below_sets3 h (by omega) _ _ _


/-- The first of n, n + 1, .. (m of them) whose multiple is infinity. -/
noncomputable def ordR (a : Int) (p : P3) : Nat → Nat → Int × Bool
  | 0, _ => (0, false)
  | m + 1, n => match mult a p n with
    | none => (0, false)
    | some s => if s.e = 0 then ((n : Int), true) else ordR a p m (n + 1)
theorem ordR_none {a : Int} {p : P3} {m n : Nat} (h : mult a p n = none) : ordR a p (m + 1) n = (0, false) := by rw [ordR, h]
theorem ordR_inf {a : Int} {p s : P3} {m n : Nat} (h : mult a p n = some s) (he : s.e = 0) : ordR a p (m + 1) n = ((n : Int), true) := by rw [ordR, h]; exact if_pos he
theorem ordR_go {a : Int} {p s : P3} {m n : Nat} (h : mult a p n = some s) (he : s.e ≠ 0) : ordR a p (m + 1) n = ordR a p m (n + 1) := by rw [ordR, h]; exact if_neg he

set_option maxHeartbeats 1000000 in
set_option maxRecDepth 100000 in
theorem ptOrder_c (a b : Int) (p : P3) (w : World) (c1 : ∀ k : Nat, k ≤ 12 → ∀ W : World, Calls Tryd.prog 38 #[.agg #[.int .i64 a, .int .i64 b], .agg #[.int .i64 p.x, .int .i64 p.y, .int .i64 p.e], .int .i64 (k : Int)] W (GivesO W (mult a p k))) (R : Int × Bool) (hR : Hid (ordR a p 12 1 = R)) : Calls Tryd.prog 39 #[.agg #[.int .i64 a, .int .i64 b], .agg #[.int .i64 p.x, .int .i64 p.y, .int .i64 p.e]] w (GivesIB w R.1 R.2) := by
  have h := Below.refl w.heap.size w
  have hA := below_alloc1 w (.cells #[.int .i64 a, .int .i64 b] 29)
  have hxc := Box.new w 29 #[.int .i64 a, .int .i64 b]
  replace h := Below.step h hA
  clear hA
  have hA := below_alloc1 (w.alloc (.cells #[.int .i64 a, .int .i64 b] 29)) (.cells #[.int .i64 p.x, .int .i64 p.y, .int .i64 p.e] 26)
  have hxp := Box.new (w.alloc (.cells #[.int .i64 a, .int .i64 b] 29)) 26 #[.int .i64 p.x, .int .i64 p.y, .int .i64 p.e]
  rw [show (w.alloc (.cells #[.int .i64 a, .int .i64 b] 29)).heap.size = w.heap.size + 1 from by simp] at hxp
  replace h := Below.step h hA
  replace hxc := hxc.kept hA
  clear hA
  obtain ⟨kc0, kc1⟩ := hxc.two
  have lc := hxc.lt
  obtain ⟨kp0, kp1, kp2⟩ := hxp.three
  have lp := hxp.lt
  go_enter Tryd.func39, Tryd.ntmps39
  go_wp2_with fail
  go_loopw [6] (fun n wr => ∃ (k m : Nat), m + k = 13 ∧ 1 ≤ k ∧ n = .int .i64 k ∧ Hid (ordR a p m k = R) ∧ Below w.heap.size w wr ∧ Box wr w.heap.size 29 #[.int .i64 a, .int .i64 b] ∧ Box wr (w.heap.size + 1) 26 #[.int .i64 p.x, .int .i64 p.y, .int .i64 p.e]) (fun n _ => 14 - (intOf n).toNat)
  case atStart => exact ⟨1, 12, rfl, by omega, rfl, hR.out, h, hxc, hxp⟩
  case round =>
    clear h hxc hxp kc0 kc1 lc kp0 kp1 kp2 lp
    obtain ⟨k, m, hk, hk1, rfl, hm, h, hxc, hxp⟩ := hrel
    clear hR
    rcases Nat.eq_zero_or_pos m with h0 | h0
    · subst h0
      have hk12 : ¬ (k : Int) ≤ 12 := by omega
      have he : R = (0, false) := hm.out.symm
      replace he := Lib.hid he
      clear hm
      obtain ⟨kc0, kc1⟩ := hxc.two
      have lc := hxc.lt
      obtain ⟨kp0, kp1, kp2⟩ := hxp.three
      have lp := hxp.lt
      go_wp2_with fail
      rw [he.out]
      go_ret2
      exact ⟨rfl, h⟩
    · obtain ⟨m', rfl⟩ : ∃ m', m = m' + 1 := ⟨m - 1, by omega⟩
      have hk12 : (k : Int) ≤ 12 := by omega
      have c2 := fun W => c1 k (by omega) W
      cases hq : mult a p k with
      | none =>
        rw [hq] at c2
        have he : R = (0, false) := by rw [← hm.out]; exact ordR_none hq
        replace he := Lib.hid he
        replace c2 : Hid (∀ W : World, Calls Tryd.prog 38 #[.agg #[.int .i64 a, .int .i64 b], .agg #[.int .i64 p.x, .int .i64 p.y, .int .i64 p.e], .int .i64 (k : Int)] W (GivesPB W 0 0 0 false)) := c2
        clear hm hq c1
        obtain ⟨kc0, kc1⟩ := hxc.two
        have lc := hxc.lt
        obtain ⟨kp0, kp1, kp2⟩ := hxp.three
        have lp := hxp.lt
        go_wp2_with fail
        refine (c2.out _).mono ?_
        rintro e w1 ⟨rfl, hb⟩
        replace h := Below.step h hb
        replace hxc := hxc.kept hb
        replace hxp := hxp.kept hb
        clear hb kc0 kc1 lc kp0 kp1 kp2 lp
        obtain ⟨kc0, kc1⟩ := hxc.two
        have lc := hxc.lt
        obtain ⟨kp0, kp1, kp2⟩ := hxp.three
        have lp := hxp.lt
        go_wp2_with fail
        rw [he.out]
        go_ret2
        exact ⟨rfl, Below.step h (below_alloc1 _ _)⟩
      | some s =>
        rw [hq] at c2
        replace c2 : Hid (∀ W : World, Calls Tryd.prog 38 #[.agg #[.int .i64 a, .int .i64 b], .agg #[.int .i64 p.x, .int .i64 p.y, .int .i64 p.e], .int .i64 (k : Int)] W (GivesPB W s.x s.y s.e true)) := c2
        by_cases hse : s.e = 0
        · have he : R = ((k : Int), true) := by rw [← hm.out]; exact ordR_inf hq hse
          have e0 : (s.e == 0) = true := by simp [hse]
          replace he := Lib.hid he
          clear hm hq hse c1
          obtain ⟨kc0, kc1⟩ := hxc.two
          have lc := hxc.lt
          obtain ⟨kp0, kp1, kp2⟩ := hxp.three
          have lp := hxp.lt
          go_wp2_with fail
          refine (c2.out _).mono ?_
          rintro e w2 ⟨rfl, hb⟩
          replace h := Below.step h hb
          replace hxc := hxc.kept hb
          replace hxp := hxp.kept hb
          clear hb kc0 kc1 lc kp0 kp1 kp2 lp
          obtain ⟨kc0, kc1⟩ := hxc.two
          have lc := hxc.lt
          obtain ⟨kp0, kp1, kp2⟩ := hxp.three
          have lp := hxp.lt
          go_wp2_with fail
          rw [he.out]
          go_ret2
          exact ⟨rfl, Below.step h (below_alloc1 _ _)⟩
        · have he : Hid (ordR a p m' (k + 1) = R) := by rw [← hm.out]; exact (ordR_go hq hse).symm
          have e0 : (s.e == 0) = false := by simp [hse]
          clear hm hq hse c1
          obtain ⟨kc0, kc1⟩ := hxc.two
          have lc := hxc.lt
          obtain ⟨kp0, kp1, kp2⟩ := hxp.three
          have lp := hxp.lt
          go_wp2_with fail
          refine (c2.out _).mono ?_
          rintro e w3 ⟨rfl, hb⟩
          replace h := Below.step h hb
          replace hxc := hxc.kept hb
          replace hxp := hxp.kept hb
          clear hb kc0 kc1 lc kp0 kp1 kp2 lp
          obtain ⟨kc0, kc1⟩ := hxc.two
          have lc := hxc.lt
          obtain ⟨kp0, kp1, kp2⟩ := hxp.three
          have lp := hxp.lt
          go_wp2_with fail
          go_roundw
          case rel => exact ⟨k + 1, m', by omega, by omega, by go_num, he, Below.step h (below_alloc1 _ _), hxc.kept (below_alloc1 _ _), hxp.kept (below_alloc1 _ _)⟩
          case measure => simp [intOf]; omega


set_option maxHeartbeats 1000000 in
set_option maxRecDepth 100000 in
theorem ordS_off (a b : Int) (p : P3) (w : World) (g : ¬ PtG a b p) : Calls Tryd.prog 24 #[.agg #[.int .i64 a, .int .i64 b], .agg #[.int .i64 p.x, .int .i64 p.y, .int .i64 p.e]] w (GivesIB w 0 false) := by
  have h := Below.refl w.heap.size w
  have hA := below_alloc1 w (.cells #[.int .i64 a, .int .i64 b] 29)
  have hxc := Box.new w 29 #[.int .i64 a, .int .i64 b]
  replace h := Below.step h hA
  clear hA
  have hA := below_alloc1 (w.alloc (.cells #[.int .i64 a, .int .i64 b] 29)) (.cells #[.int .i64 p.x, .int .i64 p.y, .int .i64 p.e] 26)
  have hxp := Box.new (w.alloc (.cells #[.int .i64 a, .int .i64 b] 29)) 26 #[.int .i64 p.x, .int .i64 p.y, .int .i64 p.e]
  rw [show (w.alloc (.cells #[.int .i64 a, .int .i64 b] 29)).heap.size = w.heap.size + 1 from by simp] at hxp
  replace h := Below.step h hA
  replace hxc := hxc.kept hA
  clear hA
  obtain ⟨kc0, kc1⟩ := hxc.two
  have lc := hxc.lt
  obtain ⟨kp0, kp1, kp2⟩ := hxp.three
  have lp := hxp.lt
  go_enter Tryd.func24, Tryd.ntmps24
  go_wp2_with fail
  refine (isPtS_off a b p _ g).mono ?_
  rintro e w1 ⟨rfl, hb⟩
  replace h := Below.step h hb
  replace hxc := hxc.kept hb
  replace hxp := hxp.kept hb
  clear hb kc0 kc1 lc kp0 kp1 kp2 lp
  obtain ⟨kc0, kc1⟩ := hxc.two
  have lc := hxc.lt
  obtain ⟨kp0, kp1, kp2⟩ := hxp.three
  have lp := hxp.lt
  go_wp2_with fail
  go_ret2
  exact ⟨rfl, h⟩


set_option maxHeartbeats 1000000 in
set_option maxRecDepth 100000 in
theorem ordS_c (a b : Int) (p : P3) (w : World) (g : PtG a b p) (n : Int) (ok : Bool) (c1 : ∀ W : World, Calls Tryd.prog 39 #[.agg #[.int .i64 a, .int .i64 b], .agg #[.int .i64 p.x, .int .i64 p.y, .int .i64 p.e]] W (GivesIB W n ok)) : Calls Tryd.prog 24 #[.agg #[.int .i64 a, .int .i64 b], .agg #[.int .i64 p.x, .int .i64 p.y, .int .i64 p.e]] w (GivesIB w n ok) := by
  have cp := fun W => isPtS_on a b p W g
  replace cp := Lib.hid cp
  replace c1 := Lib.hid c1
  clear g
  have h := Below.refl w.heap.size w
  have hA := below_alloc1 w (.cells #[.int .i64 a, .int .i64 b] 29)
  have hxc := Box.new w 29 #[.int .i64 a, .int .i64 b]
  replace h := Below.step h hA
  clear hA
  have hA := below_alloc1 (w.alloc (.cells #[.int .i64 a, .int .i64 b] 29)) (.cells #[.int .i64 p.x, .int .i64 p.y, .int .i64 p.e] 26)
  have hxp := Box.new (w.alloc (.cells #[.int .i64 a, .int .i64 b] 29)) 26 #[.int .i64 p.x, .int .i64 p.y, .int .i64 p.e]
  rw [show (w.alloc (.cells #[.int .i64 a, .int .i64 b] 29)).heap.size = w.heap.size + 1 from by simp] at hxp
  replace h := Below.step h hA
  replace hxc := hxc.kept hA
  clear hA
  obtain ⟨kc0, kc1⟩ := hxc.two
  have lc := hxc.lt
  obtain ⟨kp0, kp1, kp2⟩ := hxp.three
  have lp := hxp.lt
  go_enter Tryd.func24, Tryd.ntmps24
  go_wp2_with fail
  refine (cp.out _).mono ?_
  rintro e w1 ⟨rfl, hb⟩
  replace h := Below.step h hb
  replace hxc := hxc.kept hb
  replace hxp := hxp.kept hb
  clear hb kc0 kc1 lc kp0 kp1 kp2 lp
  obtain ⟨kc0, kc1⟩ := hxc.two
  have lc := hxc.lt
  obtain ⟨kp0, kp1, kp2⟩ := hxp.three
  have lp := hxp.lt
  go_wp2_with fail
  refine (c1.out _).mono ?_
  rintro e w2 ⟨rfl, hb⟩
  replace h := Below.step h hb
  replace hxc := hxc.kept hb
  replace hxp := hxp.kept hb
  clear hb kc0 kc1 lc kp0 kp1 kp2 lp
  obtain ⟨kc0, kc1⟩ := hxc.two
  have lc := hxc.lt
  obtain ⟨kp0, kp1, kp2⟩ := hxp.three
  have lp := hxp.lt
  go_wp2_with fail
  go_ret2
  exact ⟨rfl, h⟩


theorem Lim.off {w : World} {g i : Nat} (h : Lim w) (hne : 0 ≠ g) (u : Value) : Lim (w.setCell ⟨g, i, none⟩ u) := by
  have e := fun k : Nat => World.cell?_setCell_far w ⟨g, i, none⟩ ⟨0, k, none⟩ u (Ne.symm hne)
  exact ⟨(e 0).trans h.1, (e 1).trans h.2.1, (e 2).trans h.2.2⟩
theorem Lim.off3 {w : World} {g : Nat} (h : Lim w) (hne : 0 ≠ g) (u v s : Value) : Lim (((w.setCell ⟨g, 0, none⟩ u).setCell ⟨g, 1, none⟩ v).setCell ⟨g, 2, none⟩ s) :=
  ((h.off hne u).off hne v).off hne s

set_option maxHeartbeats 1000000 in
set_option maxRecDepth 100000 in
theorem ordI_c (a b : Int) (p : P3) (w : World) (hL : Lim w) (hlim : 0 < w.heap.size) (c1 : ∀ (s : P3) (j : Nat), mult a p j = some s → ∀ W : World, Lim W → Calls Tryd.prog 13 #[.agg #[.int .i64 a, .int .i64 b], .agg #[.int .i64 s.x, .int .i64 s.y, .int .i64 s.e], .agg #[.int .i64 p.x, .int .i64 p.y, .int .i64 p.e]] W (GivesO W (addP a s p))) (hz : ∀ (s s' : P3) (j : Nat), mult a p j = some s → addP a s p = some s' → s' ≠ .zero → s'.e ≠ 0) (R : Int × Bool) (hR : Hid (ordR a p 12 1 = R)) : Calls Tryd.prog 25 #[.agg #[.int .i64 a, .int .i64 b], .agg #[.int .i64 p.x, .int .i64 p.y, .int .i64 p.e]] w (GivesIB w R.1 R.2) := by
  replace c1 := Lib.hid c1
  have h := Below.refl w.heap.size w
  have hA := below_alloc1 w (.cells #[.int .i64 a, .int .i64 b] 29)
  have hxc := Box.new w 29 #[.int .i64 a, .int .i64 b]
  replace h := Below.step h hA
  clear hA
  have hA := below_alloc1 (w.alloc (.cells #[.int .i64 a, .int .i64 b] 29)) (.cells #[.int .i64 p.x, .int .i64 p.y, .int .i64 p.e] 26)
  have hxp := Box.new (w.alloc (.cells #[.int .i64 a, .int .i64 b] 29)) 26 #[.int .i64 p.x, .int .i64 p.y, .int .i64 p.e]
  rw [show (w.alloc (.cells #[.int .i64 a, .int .i64 b] 29)).heap.size = w.heap.size + 1 from by simp] at hxp
  replace h := Below.step h hA
  replace hxc := hxc.kept hA
  clear hA
  have hA := below_alloc1 ((w.alloc (.cells #[.int .i64 a, .int .i64 b] 29)).alloc (.cells #[.int .i64 p.x, .int .i64 p.y, .int .i64 p.e] 26)) (.cells #[.int .i64 0, .int .i64 0, .int .i64 0] 26)
  have hxs := Box.new ((w.alloc (.cells #[.int .i64 a, .int .i64 b] 29)).alloc (.cells #[.int .i64 p.x, .int .i64 p.y, .int .i64 p.e] 26)) 26 #[.int .i64 0, .int .i64 0, .int .i64 0]
  rw [show ((w.alloc (.cells #[.int .i64 a, .int .i64 b] 29)).alloc (.cells #[.int .i64 p.x, .int .i64 p.y, .int .i64 p.e] 26)).heap.size = w.heap.size + 2 from by simp] at hxs
  replace h := Below.step h hA
  replace hxc := hxc.kept hA
  replace hxp := hxp.kept hA
  clear hA
  obtain ⟨kc0, kc1⟩ := hxc.two
  have lc := hxc.lt
  obtain ⟨kp0, kp1, kp2⟩ := hxp.three
  have lp := hxp.lt
  obtain ⟨ks0, ks1, ks2⟩ := hxs.three
  have ls := hxs.lt
  replace hL := hL.kept h
  go_enter Tryd.func25, Tryd.ntmps25
  go_wp2_with fail
  go_loopw [7] (fun n wr => ∃ (k m : Nat) (s : P3), m + k = 13 ∧ 1 ≤ k ∧ n = .int .i64 k ∧ Hid (ordR a p m k = R) ∧ Hid (mult a p (k - 1) = some s) ∧ Below w.heap.size w wr ∧ Lim wr ∧ Box wr w.heap.size 29 #[.int .i64 a, .int .i64 b] ∧ Box wr (w.heap.size + 1) 26 #[.int .i64 p.x, .int .i64 p.y, .int .i64 p.e] ∧ Box wr (w.heap.size + 2) 26 #[.int .i64 s.x, .int .i64 s.y, .int .i64 s.e]) (fun n _ => 14 - (intOf n).toNat)
  case atStart => exact ⟨1, 12, .zero, rfl, by omega, rfl, hR.out, rfl, h, hL, hxc, hxp, hxs⟩
  case round =>
    clear h hL hxc hxp hxs kc0 kc1 lc kp0 kp1 kp2 lp ks0 ks1 ks2 ls
    obtain ⟨k, m, s, hk, hk1, rfl, hm, hs, h, hL, hxc, hxp, hxs⟩ := hrel
    clear hR
    rcases Nat.eq_zero_or_pos m with h0 | h0
    · subst h0
      have hk12 : ¬ (k : Int) ≤ 12 := by omega
      have he : R = (0, false) := hm.out.symm
      replace he := Lib.hid he
      clear hm hs c1
      obtain ⟨kc0, kc1⟩ := hxc.two
      have lc := hxc.lt
      obtain ⟨kp0, kp1, kp2⟩ := hxp.three
      have lp := hxp.lt
      obtain ⟨ks0, ks1, ks2⟩ := hxs.three
      have ls := hxs.lt
      go_wp2_with fail
      rw [he.out]
      go_ret2
      exact ⟨rfl, h⟩
    · obtain ⟨m', rfl⟩ : ∃ m', m = m' + 1 := ⟨m - 1, by omega⟩
      have hk12 : (k : Int) ≤ 12 := by omega
      have c2 := fun W hL => c1.out s (k - 1) hs.out W hL
      have hq0 : mult a p k = addP a s p := by rw [show k = (k - 1) + 1 from by omega]; exact mult_step hs.out
      cases hq : addP a s p with
      | none =>
        rw [hq] at c2
        have he : R = (0, false) := by rw [← hm.out]; exact ordR_none (hq0.trans hq)
        replace he := Lib.hid he
        replace c2 : Hid (∀ W : World, Lim W → Calls Tryd.prog 13 #[.agg #[.int .i64 a, .int .i64 b], .agg #[.int .i64 s.x, .int .i64 s.y, .int .i64 s.e], .agg #[.int .i64 p.x, .int .i64 p.y, .int .i64 p.e]] W (GivesPB W 0 0 0 false)) := c2
        clear hm hs hq hq0 c1
        obtain ⟨kc0, kc1⟩ := hxc.two
        have lc := hxc.lt
        obtain ⟨kp0, kp1, kp2⟩ := hxp.three
        have lp := hxp.lt
        obtain ⟨ks0, ks1, ks2⟩ := hxs.three
        have ls := hxs.lt
        go_wp2_with fail
        refine (c2.out _ hL).mono ?_
        rintro e w1 ⟨rfl, hb⟩
        replace h := Below.step h hb
        replace hxc := hxc.kept hb
        replace hxp := hxp.kept hb
        replace hxs := hxs.kept hb
        replace hL := hL.kept hb
        clear hb kc0 kc1 lc kp0 kp1 kp2 lp ks0 ks1 ks2 ls
        obtain ⟨kc0, kc1⟩ := hxc.two
        have lc := hxc.lt
        obtain ⟨kp0, kp1, kp2⟩ := hxp.three
        have lp := hxp.lt
        obtain ⟨ks0, ks1, ks2⟩ := hxs.three
        have ls := hxs.lt
        have fs0 := hxs.free 0
        have fs1 := hxs.free 1
        have fs2 := hxs.free 2
        go_wp2_with fail
        rw [he.out]
        go_ret2
        exact ⟨rfl, below_sets3 h (by omega) _ _ _⟩
      | some s' =>
        rw [hq] at c2
        replace c2 : Hid (∀ W : World, Lim W → Calls Tryd.prog 13 #[.agg #[.int .i64 a, .int .i64 b], .agg #[.int .i64 s.x, .int .i64 s.y, .int .i64 s.e], .agg #[.int .i64 p.x, .int .i64 p.y, .int .i64 p.e]] W (GivesPB W s'.x s'.y s'.e true)) := c2
        by_cases hse : s' = .zero
        · have he : R = ((k : Int), true) := by rw [← hm.out]; exact ordR_inf (hq0.trans hq) (by rw [hse]; rfl)
          replace he := Lib.hid he
          subst hse
          replace c2 : Hid (∀ W : World, Lim W → Calls Tryd.prog 13 #[.agg #[.int .i64 a, .int .i64 b], .agg #[.int .i64 s.x, .int .i64 s.y, .int .i64 s.e], .agg #[.int .i64 p.x, .int .i64 p.y, .int .i64 p.e]] W (GivesPB W 0 0 0 true)) := c2
          clear hm hs hq hq0 c1
          obtain ⟨kc0, kc1⟩ := hxc.two
          have lc := hxc.lt
          obtain ⟨kp0, kp1, kp2⟩ := hxp.three
          have lp := hxp.lt
          obtain ⟨ks0, ks1, ks2⟩ := hxs.three
          have ls := hxs.lt
          go_wp2_with fail
          refine (c2.out _ hL).mono ?_
          rintro e w2 ⟨rfl, hb⟩
          replace h := Below.step h hb
          replace hxc := hxc.kept hb
          replace hxp := hxp.kept hb
          replace hxs := hxs.kept hb
          replace hL := hL.kept hb
          clear hb kc0 kc1 lc kp0 kp1 kp2 lp ks0 ks1 ks2 ls
          obtain ⟨kc0, kc1⟩ := hxc.two
          have lc := hxc.lt
          obtain ⟨kp0, kp1, kp2⟩ := hxp.three
          have lp := hxp.lt
          obtain ⟨ks0, ks1, ks2⟩ := hxs.three
          have ls := hxs.lt
          have fs0 := hxs.free 0
          have fs1 := hxs.free 1
          have fs2 := hxs.free 2
          obtain ⟨t0, t1, t2⟩ := (hxs.set3 (.int .i64 0) (.int .i64 0) (.int .i64 0)).three
          go_wp2_with fail
          refine (isInf_yes _).mono ?_
          rintro e w9 ⟨rfl, hb⟩
          replace h := Below.step (below_sets3 h (by omega) _ _ _) hb
          go_wp2_with fail
          rw [he.out]
          go_ret2
          exact ⟨rfl, h⟩
        · have he : Hid (ordR a p m' (k + 1) = R) := by rw [← hm.out]; exact (ordR_go (hq0.trans hq) (hz s s' (k - 1) hs.out hq hse)).symm
          have hs' : Hid (mult a p (k + 1 - 1) = some s') := hq0.trans hq
          have ci := fun W => isInf_no s' W hse
          replace ci := Lib.hid ci
          clear hm hs hq hq0 c1 hse
          obtain ⟨kc0, kc1⟩ := hxc.two
          have lc := hxc.lt
          obtain ⟨kp0, kp1, kp2⟩ := hxp.three
          have lp := hxp.lt
          obtain ⟨ks0, ks1, ks2⟩ := hxs.three
          have ls := hxs.lt
          go_wp2_with fail
          refine (c2.out _ hL).mono ?_
          rintro e w3 ⟨rfl, hb⟩
          replace h := Below.step h hb
          replace hxc := hxc.kept hb
          replace hxp := hxp.kept hb
          replace hxs := hxs.kept hb
          replace hL := hL.kept hb
          clear hb kc0 kc1 lc kp0 kp1 kp2 lp ks0 ks1 ks2 ls
          obtain ⟨kc0, kc1⟩ := hxc.two
          have lc := hxc.lt
          obtain ⟨kp0, kp1, kp2⟩ := hxp.three
          have lp := hxp.lt
          obtain ⟨ks0, ks1, ks2⟩ := hxs.three
          have ls := hxs.lt
          have fs0 := hxs.free 0
          have fs1 := hxs.free 1
          have fs2 := hxs.free 2
          obtain ⟨t0, t1, t2⟩ := (hxs.set3 (.int .i64 s'.x) (.int .i64 s'.y) (.int .i64 s'.e)).three
          go_wp2_with fail
          refine (ci.out _).mono ?_
          rintro e w9 ⟨rfl, hb⟩
          replace h := Below.step (below_sets3 h (by omega) _ _ _) hb
          go_wp2_with fail
          go_roundw
          case rel =>
            have hsz : (w9 : World).heap.size ≥ 0 := Nat.zero_le _
            exact ⟨k + 1, m', s', by omega, by omega, by go_num, he, hs', h, (hL.off3 (g := w.heap.size + 2) (by omega) _ _ _).kept hb, ((hxc.off3 (by omega) _ _ _).kept hb), ((hxp.off3 (by omega) _ _ _).kept hb), ((hxs.set3 _ _ _).kept hb)⟩
          case measure => simp [intOf]; omega


set_option maxHeartbeats 1000000 in
set_option maxRecDepth 100000 in
theorem ordI_off (a b : Int) (p : P3) (w : World) (hL : Lim w) (c1 : ∀ W : World, Lim W → Calls Tryd.prog 13 #[.agg #[.int .i64 a, .int .i64 b], .agg #[.int .i64 0, .int .i64 0, .int .i64 0], .agg #[.int .i64 p.x, .int .i64 p.y, .int .i64 p.e]] W (GivesPB W 0 0 0 false)) : Calls Tryd.prog 25 #[.agg #[.int .i64 a, .int .i64 b], .agg #[.int .i64 p.x, .int .i64 p.y, .int .i64 p.e]] w (GivesIB w 0 false) := by
  replace c1 := Lib.hid c1
  have h := Below.refl w.heap.size w
  have hA := below_alloc1 w (.cells #[.int .i64 a, .int .i64 b] 29)
  have hxc := Box.new w 29 #[.int .i64 a, .int .i64 b]
  replace h := Below.step h hA
  clear hA
  have hA := below_alloc1 (w.alloc (.cells #[.int .i64 a, .int .i64 b] 29)) (.cells #[.int .i64 p.x, .int .i64 p.y, .int .i64 p.e] 26)
  have hxp := Box.new (w.alloc (.cells #[.int .i64 a, .int .i64 b] 29)) 26 #[.int .i64 p.x, .int .i64 p.y, .int .i64 p.e]
  rw [show (w.alloc (.cells #[.int .i64 a, .int .i64 b] 29)).heap.size = w.heap.size + 1 from by simp] at hxp
  replace h := Below.step h hA
  replace hxc := hxc.kept hA
  clear hA
  have hA := below_alloc1 ((w.alloc (.cells #[.int .i64 a, .int .i64 b] 29)).alloc (.cells #[.int .i64 p.x, .int .i64 p.y, .int .i64 p.e] 26)) (.cells #[.int .i64 0, .int .i64 0, .int .i64 0] 26)
  have hxs := Box.new ((w.alloc (.cells #[.int .i64 a, .int .i64 b] 29)).alloc (.cells #[.int .i64 p.x, .int .i64 p.y, .int .i64 p.e] 26)) 26 #[.int .i64 0, .int .i64 0, .int .i64 0]
  rw [show ((w.alloc (.cells #[.int .i64 a, .int .i64 b] 29)).alloc (.cells #[.int .i64 p.x, .int .i64 p.y, .int .i64 p.e] 26)).heap.size = w.heap.size + 2 from by simp] at hxs
  replace h := Below.step h hA
  replace hxc := hxc.kept hA
  replace hxp := hxp.kept hA
  clear hA
  obtain ⟨kc0, kc1⟩ := hxc.two
  have lc := hxc.lt
  obtain ⟨kp0, kp1, kp2⟩ := hxp.three
  have lp := hxp.lt
  obtain ⟨ks0, ks1, ks2⟩ := hxs.three
  have ls := hxs.lt
  replace hL := hL.kept h
  go_enter Tryd.func25, Tryd.ntmps25
  go_wp2_with fail
  go_loopw [7] (fun n wr => n = .int .i64 1 ∧ Below w.heap.size w wr ∧ Lim wr ∧ Box wr w.heap.size 29 #[.int .i64 a, .int .i64 b] ∧ Box wr (w.heap.size + 1) 26 #[.int .i64 p.x, .int .i64 p.y, .int .i64 p.e] ∧ Box wr (w.heap.size + 2) 26 #[.int .i64 0, .int .i64 0, .int .i64 0]) (fun n _ => 14 - (intOf n).toNat)
  case atStart => exact ⟨rfl, h, hL, hxc, hxp, hxs⟩
  case round =>
    clear h hL hxc hxp hxs kc0 kc1 lc kp0 kp1 kp2 lp ks0 ks1 ks2 ls
    obtain ⟨rfl, h, hL, hxc, hxp, hxs⟩ := hrel
    obtain ⟨kc0, kc1⟩ := hxc.two
    have lc := hxc.lt
    obtain ⟨kp0, kp1, kp2⟩ := hxp.three
    have lp := hxp.lt
    obtain ⟨ks0, ks1, ks2⟩ := hxs.three
    have ls := hxs.lt
    go_wp2_with fail
    refine (c1.out _ hL).mono ?_
    rintro e w1 ⟨rfl, hb⟩
    replace h := Below.step h hb
    replace hxc := hxc.kept hb
    replace hxp := hxp.kept hb
    replace hxs := hxs.kept hb
    replace hL := hL.kept hb
    clear hb kc0 kc1 lc kp0 kp1 kp2 lp ks0 ks1 ks2 ls
    obtain ⟨kc0, kc1⟩ := hxc.two
    have lc := hxc.lt
    obtain ⟨kp0, kp1, kp2⟩ := hxp.three
    have lp := hxp.lt
    obtain ⟨ks0, ks1, ks2⟩ := hxs.three
    have ls := hxs.lt
    have fs0 := hxs.free 0
    have fs1 := hxs.free 1
    have fs2 := hxs.free 2
    go_wp2_with fail
    go_ret2
    exact ⟨rfl, below_sets3 h (by omega) _ _ _⟩

end Go.Proofs.YtabcnkobojkdhaaDoor

namespace Go.Proofs.YtabcnkobojkdhaaDoor
open Go.RowKit Go.Joins

def rowLen : Value → Nat
  | .slice _ n _ => n
  | _ => 0

def GivesPO (w : World) (r : Option (List P3)) (e : Ending) (w' : World) : Prop := GivesPRowOk w (r.getD []) r.isSome e w'

set_option maxHeartbeats 4000000 in
set_option maxRecDepth 100000 in
theorem msI_c (a b : Int) (p : P3) (N : Nat) (w : World) (hL : Lim w) (hN1 : 1 ≤ N) (hN2 : N ≤ 12) (c1 : ∀ (s : P3) (j : Nat), mult a p j = some s → ∀ W : World, Lim W → Calls Tryd.prog 13 #[.agg #[.int .i64 a, .int .i64 b], .agg #[.int .i64 s.x, .int .i64 s.y, .int .i64 s.e], .agg #[.int .i64 p.x, .int .i64 p.y, .int .i64 p.e]] W (GivesO W (addP a s p))) : Calls Tryd.prog 20 #[.agg #[.int .i64 a, .int .i64 b], .agg #[.int .i64 p.x, .int .i64 p.y, .int .i64 p.e], .int .i64 (N : Int)] w (GivesPO w (multL a p N)) := by
  replace c1 := Lib.hid c1
  have hN3 : (1 : Int) ≤ N := by omega
  have hN4 : (N : Int) ≤ 12 := by omega
  have h := Below.refl w.heap.size w
  have hA := below_alloc1 w (.cells #[.int .i64 a, .int .i64 b] 29)
  have hxc := Box.new w 29 #[.int .i64 a, .int .i64 b]
  replace h := Below.step h hA
  clear hA
  have hA := below_alloc1 (w.alloc (.cells #[.int .i64 a, .int .i64 b] 29)) (.cells #[.int .i64 p.x, .int .i64 p.y, .int .i64 p.e] 26)
  have hxp := Box.new (w.alloc (.cells #[.int .i64 a, .int .i64 b] 29)) 26 #[.int .i64 p.x, .int .i64 p.y, .int .i64 p.e]
  rw [show (w.alloc (.cells #[.int .i64 a, .int .i64 b] 29)).heap.size = w.heap.size + 1 from by simp] at hxp
  replace h := Below.step h hA
  replace hxc := hxc.kept hA
  clear hA
  have hA := below_alloc1 ((w.alloc (.cells #[.int .i64 a, .int .i64 b] 29)).alloc (.cells #[.int .i64 p.x, .int .i64 p.y, .int .i64 p.e] 26)) (.cells #[.int .i64 0, .int .i64 0, .int .i64 0] 26)
  have hxs := Box.new ((w.alloc (.cells #[.int .i64 a, .int .i64 b] 29)).alloc (.cells #[.int .i64 p.x, .int .i64 p.y, .int .i64 p.e] 26)) 26 #[.int .i64 0, .int .i64 0, .int .i64 0]
  rw [show ((w.alloc (.cells #[.int .i64 a, .int .i64 b] 29)).alloc (.cells #[.int .i64 p.x, .int .i64 p.y, .int .i64 p.e] 26)).heap.size = w.heap.size + 2 from by simp] at hxs
  replace h := Below.step h hA
  replace hxc := hxc.kept hA
  replace hxp := hxp.kept hA
  clear hA
  obtain ⟨kc0, kc1⟩ := hxc.two
  have lc := hxc.lt
  obtain ⟨kp0, kp1, kp2⟩ := hxp.three
  have lp := hxp.lt
  obtain ⟨ks0, ks1, ks2⟩ := hxs.three
  have ls := hxs.lt
  go_enter Tryd.func20, Tryd.ntmps20
  go_wp2_with fail
  refine wp_scope_labels (fun l a' w' => match l with | 0 => ∃ (k : Nat) (L : List P3) (s : P3) (A : Option Addr) (c : Nat) (u5 u10 u11 u12 u13 u14 u15 u16 u17 u18 u19 u20 u21 u22 u23 u24 u25 u26 u27 u28 u29 u30 u31 u32 u33 u34 : Value), a' = { tmps := #[(.agg #[.int .i64 a, .int .i64 b]), (.agg #[.int .i64 p.x, .int .i64 p.y, .int .i64 p.e]), (.int .i64 (N : Int)), (.pointer (some ⟨w.heap.size, 0, none⟩)), (.pointer (some ⟨w.heap.size + 1, 0, none⟩)), u5, (.slice none 0 0), (.bool false), (.slice A k c), (.pointer (some ⟨w.heap.size + 2, 0, none⟩)), u10, u11, u12, u13, u14, u15, u16, u17, u18, u19, u20, u21, u22, u23, u24, u25, u26, u27, u28, u29, u30, u31, u32, u33, u34], defers := [] } ∧ k < N ∧ Hid (L.length = k) ∧ Hid (multL a p k = some L) ∧ Hid (mult a p k = some s) ∧ OwnP w' (w.heap.size + 3) (.slice A k c) L ∧ Below w.heap.size w w' ∧ Box w' w.heap.size 29 #[.int .i64 a, .int .i64 b] ∧ Box w' (w.heap.size + 1) 26 #[.int .i64 p.x, .int .i64 p.y, .int .i64 p.e] ∧ Box w' (w.heap.size + 2) 26 #[.int .i64 s.x, .int .i64 s.y, .int .i64 s.e] ∧ w.heap.size + 3 ≤ w'.heap.size | 1 => ∃ (v0 v1 v2 v3 v4 v5 v6 v7 v8 v9 v10 v11 v12 v13 v14 v15 v16 v17 v18 v19 v20 v21 v22 v23 v24 v25 v26 v27 v28 v29 v30 v31 v32 v33 v34 : Value), a' = { tmps := #[v0, v1, v2, v3, v4, v5, v6, v7, v8, v9, v10, v11, v12, v13, v14, v15, v16, v17, v18, v19, v20, v21, v22, v23, v24, v25, v26, v27, v28, v29, v30, v31, v32, v33, v34], defers := [] } ∧ Below w.heap.size w w' ∧ Hid (multL a p N = none) | _ => False) (fun l a' _ => if l = 0 then 20 - rowLen (a'.tmps.getD 8 undef) else 0) ?_ ?_
  · go_wp2_with fail
    have c2 := fun W hL => c1.out P3.zero 0 rfl W hL
    have hq0 : mult a p (0 + 1) = addP a P3.zero p := mult_step rfl
    have hLw := hL.kept h
    cases hq : addP a P3.zero p with
    | none =>
      rw [hq] at c2
      replace c2 : Hid (∀ W : World, Lim W → Calls Tryd.prog 13 #[.agg #[.int .i64 a, .int .i64 b], .agg #[.int .i64 0, .int .i64 0, .int .i64 0], .agg #[.int .i64 p.x, .int .i64 p.y, .int .i64 p.e]] W (GivesPB W 0 0 0 false)) := c2
      have he : Hid (multL a p N = none) := by rw [show N = 0 + 1 + (N - (0 + 1)) from by omega]; exact multL_none (multL_stop (hq0.trans hq)) _
      clear hq hq0 c1
      obtain ⟨kc0, kc1⟩ := hxc.two
      have lc := hxc.lt
      obtain ⟨kp0, kp1, kp2⟩ := hxp.three
      have lp := hxp.lt
      obtain ⟨ks0, ks1, ks2⟩ := hxs.three
      have ls := hxs.lt
      go_step3
      go_wp2_with fail
      refine (c2.out _ hLw).mono ?_
      rintro e w1 ⟨rfl, hb⟩
      replace h := Below.step h hb
      replace hxc := hxc.kept hb
      replace hxp := hxp.kept hb
      replace hxs := hxs.kept hb
      clear hb kc0 kc1 lc kp0 kp1 kp2 lp ks0 ks1 ks2 ls
      obtain ⟨kc0, kc1⟩ := hxc.two
      have lc := hxc.lt
      obtain ⟨kp0, kp1, kp2⟩ := hxp.three
      have lp := hxp.lt
      obtain ⟨ks0, ks1, ks2⟩ := hxs.three
      have ls := hxs.lt
      have fs0 := hxs.free 0
      have fs1 := hxs.free 1
      have fs2 := hxs.free 2
      go_wp2_with fail
      go_step3
      exact ⟨_, _, _, _, _, _, _, _, _, _, _, _, _, _, _, _, _, _, _, _, _, _, _, _, _, _, _, _, _, _, _, _, _, _, _, rfl, below_sets3 h (by omega) _ _ _, he⟩
    | some s' =>
      rw [hq] at c2
      replace c2 : Hid (∀ W : World, Lim W → Calls Tryd.prog 13 #[.agg #[.int .i64 a, .int .i64 b], .agg #[.int .i64 0, .int .i64 0, .int .i64 0], .agg #[.int .i64 p.x, .int .i64 p.y, .int .i64 p.e]] W (GivesPB W s'.x s'.y s'.e true)) := c2
      have hs' : Hid (mult a p (0 + 1) = some s') := hq0.trans hq
      have hm' : Hid (multL a p (0 + 1) = some (([] : List P3) ++ [s'])) := multL_step rfl hs'.out
      clear hq hq0 c1
      by_cases hlast : (0 : Int) + 1 < N
      · skip
        obtain ⟨kc0, kc1⟩ := hxc.two
        have lc := hxc.lt
        obtain ⟨kp0, kp1, kp2⟩ := hxp.three
        have lp := hxp.lt
        obtain ⟨ks0, ks1, ks2⟩ := hxs.three
        have ls := hxs.lt
        go_step3
        go_wp2_with fail
        refine (c2.out _ hLw).mono ?_
        rintro e w2 ⟨rfl, hb⟩
        replace h := Below.step h hb
        replace hxc := hxc.kept hb
        replace hxp := hxp.kept hb
        replace hxs := hxs.kept hb
        clear hb kc0 kc1 lc kp0 kp1 kp2 lp ks0 ks1 ks2 ls
        obtain ⟨kc0, kc1⟩ := hxc.two
        have lc := hxc.lt
        obtain ⟨kp0, kp1, kp2⟩ := hxp.three
        have lp := hxp.lt
        obtain ⟨ks0, ks1, ks2⟩ := hxs.three
        have ls := hxs.lt
        have hown : OwnP ((((w2.setCell ⟨w.heap.size + 2, 0, none⟩ (.int .i64 s'.x)).setCell ⟨w.heap.size + 2, 1, none⟩ (.int .i64 s'.y)).setCell ⟨w.heap.size + 2, 2, none⟩ (.int .i64 s'.e)).alloc (.cells #[.int .i64 s'.x, .int .i64 s'.y, .int .i64 s'.e] 26)) (w.heap.size + 3) (.slice none 0 0) [] := ownP_nil _ _
        have hss := hxs.set3 (.int .i64 s'.x) (.int .i64 s'.y) (.int .i64 s'.e)
        obtain ⟨t0, t1, t2⟩ := hss.three
        have fs0 := hxs.free 0
        have fs1 := hxs.free 1
        have fs2 := hxs.free 2
        have hrd := rdP_new (((w2.setCell ⟨w.heap.size + 2, 0, none⟩ (.int .i64 s'.x)).setCell ⟨w.heap.size + 2, 1, none⟩ (.int .i64 s'.y)).setCell ⟨w.heap.size + 2, 2, none⟩ (.int .i64 s'.e)) s'
        have hsz0 : (((w2.setCell ⟨w.heap.size + 2, 0, none⟩ (.int .i64 s'.x)).setCell ⟨w.heap.size + 2, 1, none⟩ (.int .i64 s'.y)).setCell ⟨w.heap.size + 2, 2, none⟩ (.int .i64 s'.e)).heap.size = w2.heap.size := by simp
        rw [hsz0] at hrd
        have hlen2 : ([] : List P3).length + 1 ≤ 1000000000000 := by simp
        have hbase : (w.heap.size + 3) ≤ ((((w2.setCell ⟨w.heap.size + 2, 0, none⟩ (.int .i64 s'.x)).setCell ⟨w.heap.size + 2, 1, none⟩ (.int .i64 s'.y)).setCell ⟨w.heap.size + 2, 2, none⟩ (.int .i64 s'.e)).alloc (.cells #[.int .i64 s'.x, .int .i64 s'.y, .int .i64 s'.e] 26)).heap.size := by rw [show ((((w2.setCell ⟨w.heap.size + 2, 0, none⟩ (.int .i64 s'.x)).setCell ⟨w.heap.size + 2, 1, none⟩ (.int .i64 s'.y)).setCell ⟨w.heap.size + 2, 2, none⟩ (.int .i64 s'.e)).alloc (.cells #[.int .i64 s'.x, .int .i64 s'.y, .int .i64 s'.e] 26)).heap.size = w2.heap.size + 1 from by simp]; omega
        have hbx : Below w.heap.size w ((((w2.setCell ⟨w.heap.size + 2, 0, none⟩ (.int .i64 s'.x)).setCell ⟨w.heap.size + 2, 1, none⟩ (.int .i64 s'.y)).setCell ⟨w.heap.size + 2, 2, none⟩ (.int .i64 s'.e)).alloc (.cells #[.int .i64 s'.x, .int .i64 s'.y, .int .i64 s'.e] 26)) := Below.step (below_sets3 h (by omega) _ _ _) (below_alloc1 _ _)
        have hxcx : Box ((((w2.setCell ⟨w.heap.size + 2, 0, none⟩ (.int .i64 s'.x)).setCell ⟨w.heap.size + 2, 1, none⟩ (.int .i64 s'.y)).setCell ⟨w.heap.size + 2, 2, none⟩ (.int .i64 s'.e)).alloc (.cells #[.int .i64 s'.x, .int .i64 s'.y, .int .i64 s'.e] 26)) _ _ _ := (hxc.off3 (g' := w.heap.size + 2) (by omega) (.int .i64 s'.x) (.int .i64 s'.y) (.int .i64 s'.e)).kept (below_alloc1 _ (.cells #[.int .i64 s'.x, .int .i64 s'.y, .int .i64 s'.e] 26))
        have hxpx : Box ((((w2.setCell ⟨w.heap.size + 2, 0, none⟩ (.int .i64 s'.x)).setCell ⟨w.heap.size + 2, 1, none⟩ (.int .i64 s'.y)).setCell ⟨w.heap.size + 2, 2, none⟩ (.int .i64 s'.e)).alloc (.cells #[.int .i64 s'.x, .int .i64 s'.y, .int .i64 s'.e] 26)) _ _ _ := (hxp.off3 (g' := w.heap.size + 2) (by omega) (.int .i64 s'.x) (.int .i64 s'.y) (.int .i64 s'.e)).kept (below_alloc1 _ (.cells #[.int .i64 s'.x, .int .i64 s'.y, .int .i64 s'.e] 26))
        have hxsx : Box ((((w2.setCell ⟨w.heap.size + 2, 0, none⟩ (.int .i64 s'.x)).setCell ⟨w.heap.size + 2, 1, none⟩ (.int .i64 s'.y)).setCell ⟨w.heap.size + 2, 2, none⟩ (.int .i64 s'.e)).alloc (.cells #[.int .i64 s'.x, .int .i64 s'.y, .int .i64 s'.e] 26)) _ _ _ := hss.kept (below_alloc1 _ (.cells #[.int .i64 s'.x, .int .i64 s'.y, .int .i64 s'.e] 26))
        clear h hxc hxp hxs hss hsz0
        go_wp2_with (first
          | (at_builtin; refine wpList_append_P _ rfl _ _ 38 rfl Tryd.underlying38 (w.heap.size + 3) _ [] rfl hown _ _ _ _ [s'] rfl hrd hlen2 hbase ?_; intro A' c' w8 ho' hg')
          | fail)
        have hb8 : Below w.heap.size w w8 := hbx.grown hg' hbx.size (fun k hk => by have := (World.ownsRow.lt hown k hk).1; omega)
        have ho2 : OwnP w8 (w.heap.size + 3) (.slice A' (0 + 1) c') (([] : List P3) ++ [s']) := by simpa using ho'
        have y0 := hxcx.ownP_aside hown hg' (by omega)
        have y1 := hxpx.ownP_aside hown hg' (by omega)
        have y2 := hxsx.ownP_aside hown hg' (by omega)
        have hs8 : (w.heap.size + 3) ≤ w8.heap.size := Nat.le_trans hbase hg'.size
        go_step3
        exact ⟨0 + 1, ([] : List P3) ++ [s'], s', A', c', _, _, _, _, _, _, _, _, _, _, _, _, _, _, _, _, _, _, _, _, _, _, _, _, _, _, rfl, by omega, Lib.hid (by simp), hm', hs', ho2, hb8, y0, y1, y2, hs8⟩
      · skip
        obtain ⟨kc0, kc1⟩ := hxc.two
        have lc := hxc.lt
        obtain ⟨kp0, kp1, kp2⟩ := hxp.three
        have lp := hxp.lt
        obtain ⟨ks0, ks1, ks2⟩ := hxs.three
        have ls := hxs.lt
        go_step3
        go_wp2_with fail
        refine (c2.out _ hLw).mono ?_
        rintro e w3 ⟨rfl, hb⟩
        replace h := Below.step h hb
        replace hxc := hxc.kept hb
        replace hxp := hxp.kept hb
        replace hxs := hxs.kept hb
        clear hb kc0 kc1 lc kp0 kp1 kp2 lp ks0 ks1 ks2 ls
        obtain ⟨kc0, kc1⟩ := hxc.two
        have lc := hxc.lt
        obtain ⟨kp0, kp1, kp2⟩ := hxp.three
        have lp := hxp.lt
        obtain ⟨ks0, ks1, ks2⟩ := hxs.three
        have ls := hxs.lt
        have hown : OwnP ((((w3.setCell ⟨w.heap.size + 2, 0, none⟩ (.int .i64 s'.x)).setCell ⟨w.heap.size + 2, 1, none⟩ (.int .i64 s'.y)).setCell ⟨w.heap.size + 2, 2, none⟩ (.int .i64 s'.e)).alloc (.cells #[.int .i64 s'.x, .int .i64 s'.y, .int .i64 s'.e] 26)) (w.heap.size + 3) (.slice none 0 0) [] := ownP_nil _ _
        have hss := hxs.set3 (.int .i64 s'.x) (.int .i64 s'.y) (.int .i64 s'.e)
        obtain ⟨t0, t1, t2⟩ := hss.three
        have fs0 := hxs.free 0
        have fs1 := hxs.free 1
        have fs2 := hxs.free 2
        have hrd := rdP_new (((w3.setCell ⟨w.heap.size + 2, 0, none⟩ (.int .i64 s'.x)).setCell ⟨w.heap.size + 2, 1, none⟩ (.int .i64 s'.y)).setCell ⟨w.heap.size + 2, 2, none⟩ (.int .i64 s'.e)) s'
        have hsz0 : (((w3.setCell ⟨w.heap.size + 2, 0, none⟩ (.int .i64 s'.x)).setCell ⟨w.heap.size + 2, 1, none⟩ (.int .i64 s'.y)).setCell ⟨w.heap.size + 2, 2, none⟩ (.int .i64 s'.e)).heap.size = w3.heap.size := by simp
        rw [hsz0] at hrd
        have hlen2 : ([] : List P3).length + 1 ≤ 1000000000000 := by simp
        have hbase : (w.heap.size + 3) ≤ ((((w3.setCell ⟨w.heap.size + 2, 0, none⟩ (.int .i64 s'.x)).setCell ⟨w.heap.size + 2, 1, none⟩ (.int .i64 s'.y)).setCell ⟨w.heap.size + 2, 2, none⟩ (.int .i64 s'.e)).alloc (.cells #[.int .i64 s'.x, .int .i64 s'.y, .int .i64 s'.e] 26)).heap.size := by rw [show ((((w3.setCell ⟨w.heap.size + 2, 0, none⟩ (.int .i64 s'.x)).setCell ⟨w.heap.size + 2, 1, none⟩ (.int .i64 s'.y)).setCell ⟨w.heap.size + 2, 2, none⟩ (.int .i64 s'.e)).alloc (.cells #[.int .i64 s'.x, .int .i64 s'.y, .int .i64 s'.e] 26)).heap.size = w3.heap.size + 1 from by simp]; omega
        have hbx : Below w.heap.size w ((((w3.setCell ⟨w.heap.size + 2, 0, none⟩ (.int .i64 s'.x)).setCell ⟨w.heap.size + 2, 1, none⟩ (.int .i64 s'.y)).setCell ⟨w.heap.size + 2, 2, none⟩ (.int .i64 s'.e)).alloc (.cells #[.int .i64 s'.x, .int .i64 s'.y, .int .i64 s'.e] 26)) := Below.step (below_sets3 h (by omega) _ _ _) (below_alloc1 _ _)
        have hxcx : Box ((((w3.setCell ⟨w.heap.size + 2, 0, none⟩ (.int .i64 s'.x)).setCell ⟨w.heap.size + 2, 1, none⟩ (.int .i64 s'.y)).setCell ⟨w.heap.size + 2, 2, none⟩ (.int .i64 s'.e)).alloc (.cells #[.int .i64 s'.x, .int .i64 s'.y, .int .i64 s'.e] 26)) _ _ _ := (hxc.off3 (g' := w.heap.size + 2) (by omega) (.int .i64 s'.x) (.int .i64 s'.y) (.int .i64 s'.e)).kept (below_alloc1 _ (.cells #[.int .i64 s'.x, .int .i64 s'.y, .int .i64 s'.e] 26))
        have hxpx : Box ((((w3.setCell ⟨w.heap.size + 2, 0, none⟩ (.int .i64 s'.x)).setCell ⟨w.heap.size + 2, 1, none⟩ (.int .i64 s'.y)).setCell ⟨w.heap.size + 2, 2, none⟩ (.int .i64 s'.e)).alloc (.cells #[.int .i64 s'.x, .int .i64 s'.y, .int .i64 s'.e] 26)) _ _ _ := (hxp.off3 (g' := w.heap.size + 2) (by omega) (.int .i64 s'.x) (.int .i64 s'.y) (.int .i64 s'.e)).kept (below_alloc1 _ (.cells #[.int .i64 s'.x, .int .i64 s'.y, .int .i64 s'.e] 26))
        have hxsx : Box ((((w3.setCell ⟨w.heap.size + 2, 0, none⟩ (.int .i64 s'.x)).setCell ⟨w.heap.size + 2, 1, none⟩ (.int .i64 s'.y)).setCell ⟨w.heap.size + 2, 2, none⟩ (.int .i64 s'.e)).alloc (.cells #[.int .i64 s'.x, .int .i64 s'.y, .int .i64 s'.e] 26)) _ _ _ := hss.kept (below_alloc1 _ (.cells #[.int .i64 s'.x, .int .i64 s'.y, .int .i64 s'.e] 26))
        clear h hxc hxp hxs hss hsz0
        go_wp2_with (first
          | (at_builtin; refine wpList_append_P _ rfl _ _ 38 rfl Tryd.underlying38 (w.heap.size + 3) _ [] rfl hown _ _ _ _ [s'] rfl hrd hlen2 hbase ?_; intro A' c' w8 ho' hg')
          | fail)
        have hb8 : Below w.heap.size w w8 := hbx.grown hg' hbx.size (fun k hk => by have := (World.ownsRow.lt hown k hk).1; omega)
        have ho2 : OwnP w8 (w.heap.size + 3) (.slice A' (0 + 1) c') (([] : List P3) ++ [s']) := by simpa using ho'
        have he : Hid (multL a p N = some (([] : List P3) ++ [s'])) := by rw [show N = 0 + 1 from by omega]; exact hm'.out
        rw [he.out]
        simp only [jumpTo]
        go_ret2
        exact ⟨A', c', by simp, ho'.le (by omega), hb8⟩
  · clear h hxc hxp hxs kc0 kc1 lc kp0 kp1 kp2 lp ks0 ks1 ks2 ls
    intro l a' wr hJ
    rcases l with _ | _ | l
    · obtain ⟨k, L, s, A, c, u5, u10, u11, u12, u13, u14, u15, u16, u17, u18, u19, u20, u21, u22, u23, u24, u25, u26, u27, u28, u29, u30, u31, u32, u33, u34, rfl, hkN, hk, hm, hs, hown, h, hxc, hxp, hxs, hs3⟩ := hJ
      refine ⟨_, rfl, ?_⟩
      have c2 := fun W hL => c1.out s k hs.out W hL
      have hq0 : mult a p (k + 1) = addP a s p := mult_step hs.out
      have hLw := hL.kept h
      cases hq : addP a s p with
      | none =>
        rw [hq] at c2
        replace c2 : Hid (∀ W : World, Lim W → Calls Tryd.prog 13 #[.agg #[.int .i64 a, .int .i64 b], .agg #[.int .i64 s.x, .int .i64 s.y, .int .i64 s.e], .agg #[.int .i64 p.x, .int .i64 p.y, .int .i64 p.e]] W (GivesPB W 0 0 0 false)) := c2
        have he : Hid (multL a p N = none) := by rw [show N = k + 1 + (N - (k + 1)) from by omega]; exact multL_none (multL_stop (hq0.trans hq)) _
        clear hq hq0 c1 hs hm
        obtain ⟨kc0, kc1⟩ := hxc.two
        have lc := hxc.lt
        obtain ⟨kp0, kp1, kp2⟩ := hxp.three
        have lp := hxp.lt
        obtain ⟨ks0, ks1, ks2⟩ := hxs.three
        have ls := hxs.lt
        go_wp2_with fail
        refine (c2.out _ hLw).mono ?_
        rintro e w4 ⟨rfl, hb⟩
        replace h := Below.step h hb
        replace hxc := hxc.kept hb
        replace hxp := hxp.kept hb
        replace hxs := hxs.kept hb
        replace hown := hown.kept hb
        clear hb kc0 kc1 lc kp0 kp1 kp2 lp ks0 ks1 ks2 ls
        obtain ⟨kc0, kc1⟩ := hxc.two
        have lc := hxc.lt
        obtain ⟨kp0, kp1, kp2⟩ := hxp.three
        have lp := hxp.lt
        obtain ⟨ks0, ks1, ks2⟩ := hxs.three
        have ls := hxs.lt
        have fs0 := hxs.free 0
        have fs1 := hxs.free 1
        have fs2 := hxs.free 2
        go_wp2_with fail
        go_step3
        exact ⟨⟨_, _, _, _, _, _, _, _, _, _, _, _, _, _, _, _, _, _, _, _, _, _, _, _, _, _, _, _, _, _, _, _, _, _, _, rfl, below_sets3 h (by omega) _ _ _, he⟩, by simp [rowLen]; omega⟩
      | some s' =>
        rw [hq] at c2
        replace c2 : Hid (∀ W : World, Lim W → Calls Tryd.prog 13 #[.agg #[.int .i64 a, .int .i64 b], .agg #[.int .i64 s.x, .int .i64 s.y, .int .i64 s.e], .agg #[.int .i64 p.x, .int .i64 p.y, .int .i64 p.e]] W (GivesPB W s'.x s'.y s'.e true)) := c2
        have hs' : Hid (mult a p (k + 1) = some s') := hq0.trans hq
        have hm' : Hid (multL a p (k + 1) = some (L ++ [s'])) := multL_step hm.out hs'.out
        clear hq hq0 c1 hs hm
        obtain rfl := hk.out
        by_cases hlast : (L.length : Int) + 1 < N
        · skip
          obtain ⟨kc0, kc1⟩ := hxc.two
          have lc := hxc.lt
          obtain ⟨kp0, kp1, kp2⟩ := hxp.three
          have lp := hxp.lt
          obtain ⟨ks0, ks1, ks2⟩ := hxs.three
          have ls := hxs.lt
          go_wp2_with fail
          refine (c2.out _ hLw).mono ?_
          rintro e w5 ⟨rfl, hb⟩
          replace h := Below.step h hb
          replace hxc := hxc.kept hb
          replace hxp := hxp.kept hb
          replace hxs := hxs.kept hb
          replace hown := hown.kept hb
          clear hb kc0 kc1 lc kp0 kp1 kp2 lp ks0 ks1 ks2 ls
          obtain ⟨kc0, kc1⟩ := hxc.two
          have lc := hxc.lt
          obtain ⟨kp0, kp1, kp2⟩ := hxp.three
          have lp := hxp.lt
          obtain ⟨ks0, ks1, ks2⟩ := hxs.three
          have ls := hxs.lt
          replace hown : OwnP ((((w5.setCell ⟨w.heap.size + 2, 0, none⟩ (.int .i64 s'.x)).setCell ⟨w.heap.size + 2, 1, none⟩ (.int .i64 s'.y)).setCell ⟨w.heap.size + 2, 2, none⟩ (.int .i64 s'.e)).alloc (.cells #[.int .i64 s'.x, .int .i64 s'.y, .int .i64 s'.e] 26)) (w.heap.size + 3) (.slice A L.length c) L := ((hown.off3 (by omega) _ _ _).alloc _)
          have hss := hxs.set3 (.int .i64 s'.x) (.int .i64 s'.y) (.int .i64 s'.e)
          obtain ⟨t0, t1, t2⟩ := hss.three
          have fs0 := hxs.free 0
          have fs1 := hxs.free 1
          have fs2 := hxs.free 2
          have hrd := rdP_new (((w5.setCell ⟨w.heap.size + 2, 0, none⟩ (.int .i64 s'.x)).setCell ⟨w.heap.size + 2, 1, none⟩ (.int .i64 s'.y)).setCell ⟨w.heap.size + 2, 2, none⟩ (.int .i64 s'.e)) s'
          have hsz0 : (((w5.setCell ⟨w.heap.size + 2, 0, none⟩ (.int .i64 s'.x)).setCell ⟨w.heap.size + 2, 1, none⟩ (.int .i64 s'.y)).setCell ⟨w.heap.size + 2, 2, none⟩ (.int .i64 s'.e)).heap.size = w5.heap.size := by simp
          rw [hsz0] at hrd
          have hlen2 : L.length + 1 ≤ 1000000000000 := by omega
          have hbase : (w.heap.size + 3) ≤ ((((w5.setCell ⟨w.heap.size + 2, 0, none⟩ (.int .i64 s'.x)).setCell ⟨w.heap.size + 2, 1, none⟩ (.int .i64 s'.y)).setCell ⟨w.heap.size + 2, 2, none⟩ (.int .i64 s'.e)).alloc (.cells #[.int .i64 s'.x, .int .i64 s'.y, .int .i64 s'.e] 26)).heap.size := by rw [show ((((w5.setCell ⟨w.heap.size + 2, 0, none⟩ (.int .i64 s'.x)).setCell ⟨w.heap.size + 2, 1, none⟩ (.int .i64 s'.y)).setCell ⟨w.heap.size + 2, 2, none⟩ (.int .i64 s'.e)).alloc (.cells #[.int .i64 s'.x, .int .i64 s'.y, .int .i64 s'.e] 26)).heap.size = w5.heap.size + 1 from by simp]; omega
          have hbx : Below w.heap.size w ((((w5.setCell ⟨w.heap.size + 2, 0, none⟩ (.int .i64 s'.x)).setCell ⟨w.heap.size + 2, 1, none⟩ (.int .i64 s'.y)).setCell ⟨w.heap.size + 2, 2, none⟩ (.int .i64 s'.e)).alloc (.cells #[.int .i64 s'.x, .int .i64 s'.y, .int .i64 s'.e] 26)) := Below.step (below_sets3 h (by omega) _ _ _) (below_alloc1 _ _)
          have hxcx : Box ((((w5.setCell ⟨w.heap.size + 2, 0, none⟩ (.int .i64 s'.x)).setCell ⟨w.heap.size + 2, 1, none⟩ (.int .i64 s'.y)).setCell ⟨w.heap.size + 2, 2, none⟩ (.int .i64 s'.e)).alloc (.cells #[.int .i64 s'.x, .int .i64 s'.y, .int .i64 s'.e] 26)) _ _ _ := (hxc.off3 (g' := w.heap.size + 2) (by omega) (.int .i64 s'.x) (.int .i64 s'.y) (.int .i64 s'.e)).kept (below_alloc1 _ (.cells #[.int .i64 s'.x, .int .i64 s'.y, .int .i64 s'.e] 26))
          have hxpx : Box ((((w5.setCell ⟨w.heap.size + 2, 0, none⟩ (.int .i64 s'.x)).setCell ⟨w.heap.size + 2, 1, none⟩ (.int .i64 s'.y)).setCell ⟨w.heap.size + 2, 2, none⟩ (.int .i64 s'.e)).alloc (.cells #[.int .i64 s'.x, .int .i64 s'.y, .int .i64 s'.e] 26)) _ _ _ := (hxp.off3 (g' := w.heap.size + 2) (by omega) (.int .i64 s'.x) (.int .i64 s'.y) (.int .i64 s'.e)).kept (below_alloc1 _ (.cells #[.int .i64 s'.x, .int .i64 s'.y, .int .i64 s'.e] 26))
          have hxsx : Box ((((w5.setCell ⟨w.heap.size + 2, 0, none⟩ (.int .i64 s'.x)).setCell ⟨w.heap.size + 2, 1, none⟩ (.int .i64 s'.y)).setCell ⟨w.heap.size + 2, 2, none⟩ (.int .i64 s'.e)).alloc (.cells #[.int .i64 s'.x, .int .i64 s'.y, .int .i64 s'.e] 26)) _ _ _ := hss.kept (below_alloc1 _ (.cells #[.int .i64 s'.x, .int .i64 s'.y, .int .i64 s'.e] 26))
          clear h hxc hxp hxs hss hsz0
          go_wp2_with (first
            | (at_builtin; refine wpList_append_P _ rfl _ _ 38 rfl Tryd.underlying38 (w.heap.size + 3) _ L rfl hown _ _ _ _ [s'] rfl hrd hlen2 hbase ?_; intro A' c' w8 ho' hg')
            | fail)
          have hb8 : Below w.heap.size w w8 := hbx.grown hg' hbx.size (fun k hk => by have := (World.ownsRow.lt hown k hk).1; omega)
          have ho2 : OwnP w8 (w.heap.size + 3) (.slice A' (L.length + 1) c') (L ++ [s']) := by simpa using ho'
          have y0 := hxcx.ownP_aside hown hg' (by omega)
          have y1 := hxpx.ownP_aside hown hg' (by omega)
          have y2 := hxsx.ownP_aside hown hg' (by omega)
          have hs8 : (w.heap.size + 3) ≤ w8.heap.size := Nat.le_trans hbase hg'.size
          go_step3
          exact ⟨⟨L.length + 1, L ++ [s'], s', A', c', _, _, _, _, _, _, _, _, _, _, _, _, _, _, _, _, _, _, _, _, _, _, _, _, _, _, rfl, by omega, Lib.hid (by simp), hm', hs', ho2, hb8, y0, y1, y2, hs8⟩, by simp [rowLen]; omega⟩
        · skip
          obtain ⟨kc0, kc1⟩ := hxc.two
          have lc := hxc.lt
          obtain ⟨kp0, kp1, kp2⟩ := hxp.three
          have lp := hxp.lt
          obtain ⟨ks0, ks1, ks2⟩ := hxs.three
          have ls := hxs.lt
          go_wp2_with fail
          refine (c2.out _ hLw).mono ?_
          rintro e w6 ⟨rfl, hb⟩
          replace h := Below.step h hb
          replace hxc := hxc.kept hb
          replace hxp := hxp.kept hb
          replace hxs := hxs.kept hb
          replace hown := hown.kept hb
          clear hb kc0 kc1 lc kp0 kp1 kp2 lp ks0 ks1 ks2 ls
          obtain ⟨kc0, kc1⟩ := hxc.two
          have lc := hxc.lt
          obtain ⟨kp0, kp1, kp2⟩ := hxp.three
          have lp := hxp.lt
          obtain ⟨ks0, ks1, ks2⟩ := hxs.three
          have ls := hxs.lt
          replace hown : OwnP ((((w6.setCell ⟨w.heap.size + 2, 0, none⟩ (.int .i64 s'.x)).setCell ⟨w.heap.size + 2, 1, none⟩ (.int .i64 s'.y)).setCell ⟨w.heap.size + 2, 2, none⟩ (.int .i64 s'.e)).alloc (.cells #[.int .i64 s'.x, .int .i64 s'.y, .int .i64 s'.e] 26)) (w.heap.size + 3) (.slice A L.length c) L := ((hown.off3 (by omega) _ _ _).alloc _)
          have hss := hxs.set3 (.int .i64 s'.x) (.int .i64 s'.y) (.int .i64 s'.e)
          obtain ⟨t0, t1, t2⟩ := hss.three
          have fs0 := hxs.free 0
          have fs1 := hxs.free 1
          have fs2 := hxs.free 2
          have hrd := rdP_new (((w6.setCell ⟨w.heap.size + 2, 0, none⟩ (.int .i64 s'.x)).setCell ⟨w.heap.size + 2, 1, none⟩ (.int .i64 s'.y)).setCell ⟨w.heap.size + 2, 2, none⟩ (.int .i64 s'.e)) s'
          have hsz0 : (((w6.setCell ⟨w.heap.size + 2, 0, none⟩ (.int .i64 s'.x)).setCell ⟨w.heap.size + 2, 1, none⟩ (.int .i64 s'.y)).setCell ⟨w.heap.size + 2, 2, none⟩ (.int .i64 s'.e)).heap.size = w6.heap.size := by simp
          rw [hsz0] at hrd
          have hlen2 : L.length + 1 ≤ 1000000000000 := by omega
          have hbase : (w.heap.size + 3) ≤ ((((w6.setCell ⟨w.heap.size + 2, 0, none⟩ (.int .i64 s'.x)).setCell ⟨w.heap.size + 2, 1, none⟩ (.int .i64 s'.y)).setCell ⟨w.heap.size + 2, 2, none⟩ (.int .i64 s'.e)).alloc (.cells #[.int .i64 s'.x, .int .i64 s'.y, .int .i64 s'.e] 26)).heap.size := by rw [show ((((w6.setCell ⟨w.heap.size + 2, 0, none⟩ (.int .i64 s'.x)).setCell ⟨w.heap.size + 2, 1, none⟩ (.int .i64 s'.y)).setCell ⟨w.heap.size + 2, 2, none⟩ (.int .i64 s'.e)).alloc (.cells #[.int .i64 s'.x, .int .i64 s'.y, .int .i64 s'.e] 26)).heap.size = w6.heap.size + 1 from by simp]; omega
          have hbx : Below w.heap.size w ((((w6.setCell ⟨w.heap.size + 2, 0, none⟩ (.int .i64 s'.x)).setCell ⟨w.heap.size + 2, 1, none⟩ (.int .i64 s'.y)).setCell ⟨w.heap.size + 2, 2, none⟩ (.int .i64 s'.e)).alloc (.cells #[.int .i64 s'.x, .int .i64 s'.y, .int .i64 s'.e] 26)) := Below.step (below_sets3 h (by omega) _ _ _) (below_alloc1 _ _)
          have hxcx : Box ((((w6.setCell ⟨w.heap.size + 2, 0, none⟩ (.int .i64 s'.x)).setCell ⟨w.heap.size + 2, 1, none⟩ (.int .i64 s'.y)).setCell ⟨w.heap.size + 2, 2, none⟩ (.int .i64 s'.e)).alloc (.cells #[.int .i64 s'.x, .int .i64 s'.y, .int .i64 s'.e] 26)) _ _ _ := (hxc.off3 (g' := w.heap.size + 2) (by omega) (.int .i64 s'.x) (.int .i64 s'.y) (.int .i64 s'.e)).kept (below_alloc1 _ (.cells #[.int .i64 s'.x, .int .i64 s'.y, .int .i64 s'.e] 26))
          have hxpx : Box ((((w6.setCell ⟨w.heap.size + 2, 0, none⟩ (.int .i64 s'.x)).setCell ⟨w.heap.size + 2, 1, none⟩ (.int .i64 s'.y)).setCell ⟨w.heap.size + 2, 2, none⟩ (.int .i64 s'.e)).alloc (.cells #[.int .i64 s'.x, .int .i64 s'.y, .int .i64 s'.e] 26)) _ _ _ := (hxp.off3 (g' := w.heap.size + 2) (by omega) (.int .i64 s'.x) (.int .i64 s'.y) (.int .i64 s'.e)).kept (below_alloc1 _ (.cells #[.int .i64 s'.x, .int .i64 s'.y, .int .i64 s'.e] 26))
          have hxsx : Box ((((w6.setCell ⟨w.heap.size + 2, 0, none⟩ (.int .i64 s'.x)).setCell ⟨w.heap.size + 2, 1, none⟩ (.int .i64 s'.y)).setCell ⟨w.heap.size + 2, 2, none⟩ (.int .i64 s'.e)).alloc (.cells #[.int .i64 s'.x, .int .i64 s'.y, .int .i64 s'.e] 26)) _ _ _ := hss.kept (below_alloc1 _ (.cells #[.int .i64 s'.x, .int .i64 s'.y, .int .i64 s'.e] 26))
          clear h hxc hxp hxs hss hsz0
          go_wp2_with (first
            | (at_builtin; refine wpList_append_P _ rfl _ _ 38 rfl Tryd.underlying38 (w.heap.size + 3) _ L rfl hown _ _ _ _ [s'] rfl hrd hlen2 hbase ?_; intro A' c' w8 ho' hg')
            | fail)
          have hb8 : Below w.heap.size w w8 := hbx.grown hg' hbx.size (fun k hk => by have := (World.ownsRow.lt hown k hk).1; omega)
          have ho2 : OwnP w8 (w.heap.size + 3) (.slice A' (L.length + 1) c') (L ++ [s']) := by simpa using ho'
          have he : Hid (multL a p N = some (L ++ [s'])) := by rw [show N = L.length + 1 from by omega]; exact hm'.out
          rw [he.out]
          simp only [jumpTo]
          go_ret2
          exact ⟨A', c', by simp, ho'.le (by omega), hb8⟩
    · obtain ⟨v0, v1, v2, v3, v4, v5, v6, v7, v8, v9, v10, v11, v12, v13, v14, v15, v16, v17, v18, v19, v20, v21, v22, v23, v24, v25, v26, v27, v28, v29, v30, v31, v32, v33, v34, rfl, h, he⟩ := hJ
      refine ⟨_, rfl, ?_⟩
      go_wp2_with fail
      simp only [jumpTo]
      rw [he.out]
      go_ret2
      exact ⟨none, 0, rfl, ownP_nil _ _, h⟩
    · exact hJ.elim

end Go.Proofs.YtabcnkobojkdhaaDoor

namespace Go.Proofs.YtabcnkobojkdhaaDoor
open Go.RowKit Go.Joins

set_option maxHeartbeats 1000000 in
set_option maxRecDepth 100000 in
theorem msS_off (a b : Int) (p : P3) (n : Int) (w : World) (g : ¬ PtG a b p) : Calls Tryd.prog 19 #[.agg #[.int .i64 a, .int .i64 b], .agg #[.int .i64 p.x, .int .i64 p.y, .int .i64 p.e], .int .i64 n] w (GivesPRowOk w [] false) := by
  have h := Below.refl w.heap.size w
  have hA := below_alloc1 w (.cells #[.int .i64 a, .int .i64 b] 29)
  have hxc := Box.new w 29 #[.int .i64 a, .int .i64 b]
  replace h := Below.step h hA
  clear hA
  have hA := below_alloc1 (w.alloc (.cells #[.int .i64 a, .int .i64 b] 29)) (.cells #[.int .i64 p.x, .int .i64 p.y, .int .i64 p.e] 26)
  have hxp := Box.new (w.alloc (.cells #[.int .i64 a, .int .i64 b] 29)) 26 #[.int .i64 p.x, .int .i64 p.y, .int .i64 p.e]
  rw [show (w.alloc (.cells #[.int .i64 a, .int .i64 b] 29)).heap.size = w.heap.size + 1 from by simp] at hxp
  replace h := Below.step h hA
  replace hxc := hxc.kept hA
  clear hA
  obtain ⟨kc0, kc1⟩ := hxc.two
  have lc := hxc.lt
  obtain ⟨kp0, kp1, kp2⟩ := hxp.three
  have lp := hxp.lt
  go_enter Tryd.func19, Tryd.ntmps19
  go_wp2_with fail
  refine (isPtS_off a b p _ g).mono ?_
  rintro e w1 ⟨rfl, hb⟩
  replace h := Below.step h hb
  replace hxc := hxc.kept hb
  replace hxp := hxp.kept hb
  clear hb kc0 kc1 lc kp0 kp1 kp2 lp
  obtain ⟨kc0, kc1⟩ := hxc.two
  have lc := hxc.lt
  obtain ⟨kp0, kp1, kp2⟩ := hxp.three
  have lp := hxp.lt
  go_wp2_with fail
  go_ret2
  exact ⟨none, 0, rfl, ownP_nil _ _, h⟩


set_option maxHeartbeats 1000000 in
set_option maxRecDepth 100000 in
theorem msS_far (a b : Int) (p : P3) (n : Int) (w : World) (g : PtG a b p) (hn : n < 1 ∨ 12 < n) : Calls Tryd.prog 19 #[.agg #[.int .i64 a, .int .i64 b], .agg #[.int .i64 p.x, .int .i64 p.y, .int .i64 p.e], .int .i64 n] w (GivesPRowOk w [] false) := by
  replace hn := Lib.hid hn
  have h := Below.refl w.heap.size w
  have hA := below_alloc1 w (.cells #[.int .i64 a, .int .i64 b] 29)
  have hxc := Box.new w 29 #[.int .i64 a, .int .i64 b]
  replace h := Below.step h hA
  clear hA
  have hA := below_alloc1 (w.alloc (.cells #[.int .i64 a, .int .i64 b] 29)) (.cells #[.int .i64 p.x, .int .i64 p.y, .int .i64 p.e] 26)
  have hxp := Box.new (w.alloc (.cells #[.int .i64 a, .int .i64 b] 29)) 26 #[.int .i64 p.x, .int .i64 p.y, .int .i64 p.e]
  rw [show (w.alloc (.cells #[.int .i64 a, .int .i64 b] 29)).heap.size = w.heap.size + 1 from by simp] at hxp
  replace h := Below.step h hA
  replace hxc := hxc.kept hA
  clear hA
  obtain ⟨kc0, kc1⟩ := hxc.two
  have lc := hxc.lt
  obtain ⟨kp0, kp1, kp2⟩ := hxp.three
  have lp := hxp.lt
  go_enter Tryd.func19, Tryd.ntmps19
  go_wp2_with fail
  refine (isPtS_on a b p _ g).mono ?_
  rintro e w1 ⟨rfl, hb⟩
  replace h := Below.step h hb
  replace hxc := hxc.kept hb
  replace hxp := hxp.kept hb
  clear hb kc0 kc1 lc kp0 kp1 kp2 lp
  obtain ⟨kc0, kc1⟩ := hxc.two
  have lc := hxc.lt
  obtain ⟨kp0, kp1, kp2⟩ := hxp.three
  have lp := hxp.lt
  go_wp2_with fail
  refine (l1In_no n 1 12 _ hn.out).mono ?_
  rintro e w2 ⟨rfl, rfl⟩
  go_wp2_with fail
  go_ret2
  exact ⟨none, 0, rfl, ownP_nil _ _, h⟩


set_option maxHeartbeats 2000000 in
set_option maxRecDepth 100000 in
theorem msS_c (a b : Int) (p : P3) (N : Nat) (w : World) (g : PtG a b p) (hN1 : 1 ≤ N) (hN2 : N ≤ 12) (c1 : ∀ k : Nat, k ≤ 12 → ∀ W : World, Calls Tryd.prog 38 #[.agg #[.int .i64 a, .int .i64 b], .agg #[.int .i64 p.x, .int .i64 p.y, .int .i64 p.e], .int .i64 (k : Int)] W (GivesO W (mult a p k))) : Calls Tryd.prog 19 #[.agg #[.int .i64 a, .int .i64 b], .agg #[.int .i64 p.x, .int .i64 p.y, .int .i64 p.e], .int .i64 (N : Int)] w (GivesPO w (multL a p N)) := by
  have cp := fun W => isPtS_on a b p W g
  replace cp := Lib.hid cp
  replace c1 := Lib.hid c1
  have hN3 : (1 : Int) ≤ N := by omega
  have hN4 : (N : Int) ≤ 12 := by omega
  clear g
  have h := Below.refl w.heap.size w
  have hA := below_alloc1 w (.cells #[.int .i64 a, .int .i64 b] 29)
  have hxc := Box.new w 29 #[.int .i64 a, .int .i64 b]
  replace h := Below.step h hA
  clear hA
  have hA := below_alloc1 (w.alloc (.cells #[.int .i64 a, .int .i64 b] 29)) (.cells #[.int .i64 p.x, .int .i64 p.y, .int .i64 p.e] 26)
  have hxp := Box.new (w.alloc (.cells #[.int .i64 a, .int .i64 b] 29)) 26 #[.int .i64 p.x, .int .i64 p.y, .int .i64 p.e]
  rw [show (w.alloc (.cells #[.int .i64 a, .int .i64 b] 29)).heap.size = w.heap.size + 1 from by simp] at hxp
  replace h := Below.step h hA
  replace hxc := hxc.kept hA
  clear hA
  obtain ⟨kc0, kc1⟩ := hxc.two
  have lc := hxc.lt
  obtain ⟨kp0, kp1, kp2⟩ := hxp.three
  have lp := hxp.lt
  go_enter Tryd.func19, Tryd.ntmps19
  go_wp2_with fail
  refine (cp.out _).mono ?_
  rintro e w1 ⟨rfl, hb⟩
  replace h := Below.step h hb
  replace hxc := hxc.kept hb
  replace hxp := hxp.kept hb
  clear hb kc0 kc1 lc kp0 kp1 kp2 lp
  obtain ⟨kc0, kc1⟩ := hxc.two
  have lc := hxc.lt
  obtain ⟨kp0, kp1, kp2⟩ := hxp.three
  have lp := hxp.lt
  go_wp2_with fail
  refine (l1In_yes (N : Int) 1 12 _ hN3 hN4).mono ?_
  rintro e w2 ⟨rfl, rfl⟩
  go_wp2_with fail
  go_loopw [8, 9] (fun v n wr => ∃ (k : Nat) (L : List P3) (A : Option Addr) (c : Nat), 1 ≤ k ∧ k ≤ N + 1 ∧ n = .int .i64 k ∧ v = .slice A L.length c ∧ Hid (L.length = k - 1) ∧ Hid (multL a p (k - 1) = some L) ∧ OwnP wr (w.heap.size + 2) (.slice A L.length c) L ∧ Below w.heap.size w wr ∧ Box wr w.heap.size 29 #[.int .i64 a, .int .i64 b] ∧ Box wr (w.heap.size + 1) 26 #[.int .i64 p.x, .int .i64 p.y, .int .i64 p.e] ∧ w.heap.size + 2 ≤ wr.heap.size) (fun _ n _ => 20 - (intOf n).toNat)
  case atStart => exact ⟨1, [], none, 0, by omega, by omega, rfl, rfl, rfl, rfl, ownP_nil _ _, h, hxc, hxp, by have := hxp.lt; omega⟩
  case round =>
    clear h hxc hxp kc0 kc1 lc kp0 kp1 kp2 lp
    obtain ⟨k, L, A, c, hk1, hkN, rfl, rfl, hl, hm, hown, h, hxc, hxp, hs3⟩ := hrel
    by_cases hle : (k : Int) ≤ N
    · have c2 := fun W => c1.out k (by omega) W
      have hk0 : k - 1 + 1 = k := by omega
      have hll : (L.length : Int) ≤ 12 := by have := hl.out; omega
      cases hq : mult a p k with
      | none =>
        rw [hq] at c2
        replace c2 : Hid (∀ W : World, Calls Tryd.prog 38 #[.agg #[.int .i64 a, .int .i64 b], .agg #[.int .i64 p.x, .int .i64 p.y, .int .i64 p.e], .int .i64 (k : Int)] W (GivesPB W 0 0 0 false)) := c2
        have he : Hid (multL a p N = none) := by rw [show N = (k - 1) + 1 + (N - k) from by omega]; exact multL_none (multL_stop (by rw [hk0]; exact hq)) _
        clear hq hm c1 hk0
        obtain ⟨kc0, kc1⟩ := hxc.two
        have lc := hxc.lt
        obtain ⟨kp0, kp1, kp2⟩ := hxp.three
        have lp := hxp.lt
        go_wp2_with fail
        refine (c2.out _).mono ?_
        rintro e w3 ⟨rfl, hb⟩
        replace h := Below.step h hb
        replace hxc := hxc.kept hb
        replace hxp := hxp.kept hb
        replace hown := hown.kept hb
        clear hb kc0 kc1 lc kp0 kp1 kp2 lp
        obtain ⟨kc0, kc1⟩ := hxc.two
        have lc := hxc.lt
        obtain ⟨kp0, kp1, kp2⟩ := hxp.three
        have lp := hxp.lt
        go_wp2_with fail
        rw [he.out]
        go_ret2
        exact ⟨none, 0, rfl, ownP_nil _ _, Below.step h (below_alloc1 _ _)⟩
      | some s =>
        rw [hq] at c2
        replace c2 : Hid (∀ W : World, Calls Tryd.prog 38 #[.agg #[.int .i64 a, .int .i64 b], .agg #[.int .i64 p.x, .int .i64 p.y, .int .i64 p.e], .int .i64 (k : Int)] W (GivesPB W s.x s.y s.e true)) := c2
        have hm' : Hid (multL a p (k + 1 - 1) = some (L ++ [s])) := by show multL a p k = _; rw [← hk0]; exact multL_step hm.out (by rw [hk0]; exact hq)
        have hl' : Hid ((L ++ [s]).length = k + 1 - 1) := by show (L ++ [s]).length = _; rw [List.length_append, hl.out]; simp; omega
        clear hq hm c1 hk0
        obtain ⟨kc0, kc1⟩ := hxc.two
        have lc := hxc.lt
        obtain ⟨kp0, kp1, kp2⟩ := hxp.three
        have lp := hxp.lt
        go_wp2_with fail
        refine (c2.out _).mono ?_
        rintro e w4 ⟨rfl, hb⟩
        replace h := Below.step h hb
        replace hxc := hxc.kept hb
        replace hxp := hxp.kept hb
        replace hown := hown.kept hb
        clear hb kc0 kc1 lc kp0 kp1 kp2 lp
        obtain ⟨kc0, kc1⟩ := hxc.two
        have lc := hxc.lt
        obtain ⟨kp0, kp1, kp2⟩ := hxp.three
        have lp := hxp.lt
        replace hown : OwnP ((w4.alloc (.cells #[.int .i64 s.x, .int .i64 s.y, .int .i64 s.e] 26)).alloc (.cells #[.int .i64 s.x, .int .i64 s.y, .int .i64 s.e] 26)) (w.heap.size + 2) (.slice A L.length c) L := (hown.alloc _).alloc _
        have hrd := rdP_new (w4.alloc (.cells #[.int .i64 s.x, .int .i64 s.y, .int .i64 s.e] 26)) s
        rw [show (w4.alloc (.cells #[.int .i64 s.x, .int .i64 s.y, .int .i64 s.e] 26)).heap.size = w4.heap.size + 1 from by simp] at hrd
        have hlen2 : L.length + 1 ≤ 1000000000000 := by omega
        have hbase : (w.heap.size + 2) ≤ ((w4.alloc (.cells #[.int .i64 s.x, .int .i64 s.y, .int .i64 s.e] 26)).alloc (.cells #[.int .i64 s.x, .int .i64 s.y, .int .i64 s.e] 26)).heap.size := by rw [show ((w4.alloc (.cells #[.int .i64 s.x, .int .i64 s.y, .int .i64 s.e] 26)).alloc (.cells #[.int .i64 s.x, .int .i64 s.y, .int .i64 s.e] 26)).heap.size = w4.heap.size + 1 + 1 from by simp]; omega
        have hbx : Below w.heap.size w ((w4.alloc (.cells #[.int .i64 s.x, .int .i64 s.y, .int .i64 s.e] 26)).alloc (.cells #[.int .i64 s.x, .int .i64 s.y, .int .i64 s.e] 26)) := Below.step (Below.step h (below_alloc1 _ _)) (below_alloc1 _ _)
        have hxcx : Box ((w4.alloc (.cells #[.int .i64 s.x, .int .i64 s.y, .int .i64 s.e] 26)).alloc (.cells #[.int .i64 s.x, .int .i64 s.y, .int .i64 s.e] 26)) _ _ _ := (hxc.kept (below_alloc1 _ _)).kept (below_alloc1 _ (.cells #[.int .i64 s.x, .int .i64 s.y, .int .i64 s.e] 26))
        have hxpx : Box ((w4.alloc (.cells #[.int .i64 s.x, .int .i64 s.y, .int .i64 s.e] 26)).alloc (.cells #[.int .i64 s.x, .int .i64 s.y, .int .i64 s.e] 26)) _ _ _ := (hxp.kept (below_alloc1 _ _)).kept (below_alloc1 _ (.cells #[.int .i64 s.x, .int .i64 s.y, .int .i64 s.e] 26))
        clear h hxc hxp
        go_wp2_with (first
          | (at_builtin; refine wpList_append_P _ rfl _ _ 38 rfl Tryd.underlying38 (w.heap.size + 2) _ L rfl hown _ _ _ _ [s] rfl hrd hlen2 hbase ?_; intro A' c' w8 ho' hg')
          | fail)
        have hb8 : Below w.heap.size w w8 := hbx.grown hg' hbx.size (fun k hk => by have := (World.ownsRow.lt hown k hk).1; omega)
        have y0 := hxcx.ownP_aside hown hg' (by omega)
        have y1 := hxpx.ownP_aside hown hg' (by omega)
        have hs8 : (w.heap.size + 2) ≤ w8.heap.size := Nat.le_trans hbase hg'.size
        have hll2 : L.length + 1 = (L ++ [s]).length := by rw [List.length_append]; rfl
        rw [hll2]
        clear hll2
        go_roundw
        case rel => exact ⟨k + 1, L ++ [s], A', c', by omega, by omega, by go_num, rfl, hl', hm', ho', hb8, y0, y1, hs8⟩
        case measure => simp [intOf]; omega
    · have he : Hid (multL a p N = some L) := by rw [show N = k - 1 from by omega]; exact hm.out
      clear hm hl c1
      obtain ⟨kc0, kc1⟩ := hxc.two
      have lc := hxc.lt
      obtain ⟨kp0, kp1, kp2⟩ := hxp.three
      have lp := hxp.lt
      go_wp2_with fail
      rw [he.out]
      go_ret2
      exact ⟨A, c, by simp, hown.le (by omega), h⟩


set_option maxHeartbeats 1000000 in
set_option maxRecDepth 100000 in
theorem msI_low (a b : Int) (p : P3) (n : Int) (w : World) (hn : n < 1) : Calls Tryd.prog 20 #[.agg #[.int .i64 a, .int .i64 b], .agg #[.int .i64 p.x, .int .i64 p.y, .int .i64 p.e], .int .i64 n] w (GivesPRowOk w [] false) := by
  have h := Below.refl w.heap.size w
  have hA := below_alloc1 w (.cells #[.int .i64 a, .int .i64 b] 29)
  have hxc := Box.new w 29 #[.int .i64 a, .int .i64 b]
  replace h := Below.step h hA
  clear hA
  have hA := below_alloc1 (w.alloc (.cells #[.int .i64 a, .int .i64 b] 29)) (.cells #[.int .i64 p.x, .int .i64 p.y, .int .i64 p.e] 26)
  have hxp := Box.new (w.alloc (.cells #[.int .i64 a, .int .i64 b] 29)) 26 #[.int .i64 p.x, .int .i64 p.y, .int .i64 p.e]
  rw [show (w.alloc (.cells #[.int .i64 a, .int .i64 b] 29)).heap.size = w.heap.size + 1 from by simp] at hxp
  replace h := Below.step h hA
  replace hxc := hxc.kept hA
  clear hA
  obtain ⟨kc0, kc1⟩ := hxc.two
  have lc := hxc.lt
  obtain ⟨kp0, kp1, kp2⟩ := hxp.three
  have lp := hxp.lt
  go_enter Tryd.func20, Tryd.ntmps20
  go_wp2_with fail
  refine wp_scope_labels (fun _ _ _ => False) (fun _ _ _ => 0) ?_ (fun _ _ _ hf => hf.elim)
  go_wp2_with fail
  simp only [jumpTo]
  go_ret2
  exact ⟨none, 0, rfl, ownP_nil _ _, h⟩


set_option maxHeartbeats 1000000 in
set_option maxRecDepth 100000 in
theorem msI_high (a b : Int) (p : P3) (n : Int) (w : World) (hn1 : 1 ≤ n) (hn : 12 < n) : Calls Tryd.prog 20 #[.agg #[.int .i64 a, .int .i64 b], .agg #[.int .i64 p.x, .int .i64 p.y, .int .i64 p.e], .int .i64 n] w (GivesPRowOk w [] false) := by
  have h := Below.refl w.heap.size w
  have hA := below_alloc1 w (.cells #[.int .i64 a, .int .i64 b] 29)
  have hxc := Box.new w 29 #[.int .i64 a, .int .i64 b]
  replace h := Below.step h hA
  clear hA
  have hA := below_alloc1 (w.alloc (.cells #[.int .i64 a, .int .i64 b] 29)) (.cells #[.int .i64 p.x, .int .i64 p.y, .int .i64 p.e] 26)
  have hxp := Box.new (w.alloc (.cells #[.int .i64 a, .int .i64 b] 29)) 26 #[.int .i64 p.x, .int .i64 p.y, .int .i64 p.e]
  rw [show (w.alloc (.cells #[.int .i64 a, .int .i64 b] 29)).heap.size = w.heap.size + 1 from by simp] at hxp
  replace h := Below.step h hA
  replace hxc := hxc.kept hA
  clear hA
  obtain ⟨kc0, kc1⟩ := hxc.two
  have lc := hxc.lt
  obtain ⟨kp0, kp1, kp2⟩ := hxp.three
  have lp := hxp.lt
  go_enter Tryd.func20, Tryd.ntmps20
  go_wp2_with fail
  refine wp_scope_labels (fun _ _ _ => False) (fun _ _ _ => 0) ?_ (fun _ _ _ hf => hf.elim)
  go_wp2_with fail
  simp only [jumpTo]
  go_ret2
  exact ⟨none, 0, rfl, ownP_nil _ _, h⟩


set_option maxHeartbeats 2000000 in
set_option maxRecDepth 100000 in
theorem msI_off (a b : Int) (p : P3) (n : Int) (w : World) (hL : Lim w) (hn1 : 1 ≤ n) (hn : n ≤ 12) (c1 : ∀ W : World, Lim W → Calls Tryd.prog 13 #[.agg #[.int .i64 a, .int .i64 b], .agg #[.int .i64 0, .int .i64 0, .int .i64 0], .agg #[.int .i64 p.x, .int .i64 p.y, .int .i64 p.e]] W (GivesPB W 0 0 0 false)) : Calls Tryd.prog 20 #[.agg #[.int .i64 a, .int .i64 b], .agg #[.int .i64 p.x, .int .i64 p.y, .int .i64 p.e], .int .i64 n] w (GivesPRowOk w [] false) := by
  replace c1 := Lib.hid c1
  have h := Below.refl w.heap.size w
  have hA := below_alloc1 w (.cells #[.int .i64 a, .int .i64 b] 29)
  have hxc := Box.new w 29 #[.int .i64 a, .int .i64 b]
  replace h := Below.step h hA
  clear hA
  have hA := below_alloc1 (w.alloc (.cells #[.int .i64 a, .int .i64 b] 29)) (.cells #[.int .i64 p.x, .int .i64 p.y, .int .i64 p.e] 26)
  have hxp := Box.new (w.alloc (.cells #[.int .i64 a, .int .i64 b] 29)) 26 #[.int .i64 p.x, .int .i64 p.y, .int .i64 p.e]
  rw [show (w.alloc (.cells #[.int .i64 a, .int .i64 b] 29)).heap.size = w.heap.size + 1 from by simp] at hxp
  replace h := Below.step h hA
  replace hxc := hxc.kept hA
  clear hA
  have hA := below_alloc1 ((w.alloc (.cells #[.int .i64 a, .int .i64 b] 29)).alloc (.cells #[.int .i64 p.x, .int .i64 p.y, .int .i64 p.e] 26)) (.cells #[.int .i64 0, .int .i64 0, .int .i64 0] 26)
  have hxs := Box.new ((w.alloc (.cells #[.int .i64 a, .int .i64 b] 29)).alloc (.cells #[.int .i64 p.x, .int .i64 p.y, .int .i64 p.e] 26)) 26 #[.int .i64 0, .int .i64 0, .int .i64 0]
  rw [show ((w.alloc (.cells #[.int .i64 a, .int .i64 b] 29)).alloc (.cells #[.int .i64 p.x, .int .i64 p.y, .int .i64 p.e] 26)).heap.size = w.heap.size + 2 from by simp] at hxs
  replace h := Below.step h hA
  replace hxc := hxc.kept hA
  replace hxp := hxp.kept hA
  clear hA
  obtain ⟨kc0, kc1⟩ := hxc.two
  have lc := hxc.lt
  obtain ⟨kp0, kp1, kp2⟩ := hxp.three
  have lp := hxp.lt
  obtain ⟨ks0, ks1, ks2⟩ := hxs.three
  have ls := hxs.lt
  have hLw := hL.kept h
  go_enter Tryd.func20, Tryd.ntmps20
  go_wp2_with fail
  refine wp_scope_labels (fun l a' w' => match l with | 1 => ∃ (v0 v1 v2 v3 v4 v5 v6 v7 v8 v9 v10 v11 v12 v13 v14 v15 v16 v17 v18 v19 v20 v21 v22 v23 v24 v25 v26 v27 v28 v29 v30 v31 v32 v33 v34 : Value), a' = { tmps := #[v0, v1, v2, v3, v4, v5, v6, v7, v8, v9, v10, v11, v12, v13, v14, v15, v16, v17, v18, v19, v20, v21, v22, v23, v24, v25, v26, v27, v28, v29, v30, v31, v32, v33, v34], defers := [] } ∧ Below w.heap.size w w' | _ => False) (fun _ _ _ => 0) ?_ ?_
  · go_wp2_with fail
    go_step3
    go_wp2_with fail
    refine (c1.out _ hLw).mono ?_
    rintro e w1 ⟨rfl, hb⟩
    replace h := Below.step h hb
    replace hxc := hxc.kept hb
    replace hxp := hxp.kept hb
    replace hxs := hxs.kept hb
    clear hb kc0 kc1 lc kp0 kp1 kp2 lp ks0 ks1 ks2 ls
    obtain ⟨kc0, kc1⟩ := hxc.two
    have lc := hxc.lt
    obtain ⟨kp0, kp1, kp2⟩ := hxp.three
    have lp := hxp.lt
    obtain ⟨ks0, ks1, ks2⟩ := hxs.three
    have ls := hxs.lt
    have fs0 := hxs.free 0
    have fs1 := hxs.free 1
    have fs2 := hxs.free 2
    go_wp2_with fail
    go_step3
    exact ⟨_, _, _, _, _, _, _, _, _, _, _, _, _, _, _, _, _, _, _, _, _, _, _, _, _, _, _, _, _, _, _, _, _, _, _, rfl, below_sets3 h (by omega) _ _ _⟩
  · intro l a' wr hJ
    rcases l with _ | _ | l
    · exact hJ.elim
    · obtain ⟨v0, v1, v2, v3, v4, v5, v6, v7, v8, v9, v10, v11, v12, v13, v14, v15, v16, v17, v18, v19, v20, v21, v22, v23, v24, v25, v26, v27, v28, v29, v30, v31, v32, v33, v34, rfl, h⟩ := hJ
      refine ⟨_, rfl, ?_⟩
      go_wp2_with fail
      simp only [jumpTo]
      go_ret2
      exact ⟨none, 0, rfl, ownP_nil _ _, h⟩
    · exact hJ.elim

end Go.Proofs.YtabcnkobojkdhaaDoor

namespace Go.Proofs.YtabcnkobojkdhaaDoor
open Go.RowKit Go.Joins

set_option maxHeartbeats 1000000 in
set_option maxRecDepth 100000 in
theorem oppI_w (p : P3) (w : World) : Calls Tryd.prog 35 #[.agg #[.int .i64 p.x, .int .i64 p.y, .int .i64 p.e]] w (GivesP w p.x (wrap64 (-p.y)) p.e) := by
  go_enter Tryd.func35, Tryd.ntmps35
  go_wp2_with fail
  refine bodyPost_ret (v := .agg #[.int .i64 p.x, .int .i64 (wrap64 (-p.y)), .int .i64 p.e]) (by simp [results, Tryd.results35, go_sem]) (by rfl) ⟨by rfl, ?_⟩
  exact Below.step (below_alloc1 _ _) (below_alloc1 _ _)


set_option maxHeartbeats 1000000 in
set_option maxRecDepth 100000 in
theorem mulI_0 (a b : Int) (p : P3) (w : World) : Calls Tryd.prog 18 #[.agg #[.int .i64 a, .int .i64 b], .agg #[.int .i64 p.x, .int .i64 p.y, .int .i64 p.e], .int .i64 0] w (GivesPB w 0 0 0 (decide (PtG a b p))) := by
  have c1 := fun W => isPtI_any a b p W
  obtain ⟨ok, hk⟩ : ∃ ok, ok = decide (PtG a b p) := ⟨_, rfl⟩
  rw [← hk] at c1 ⊢
  replace c1 := Lib.hid c1
  clear hk
  have h := Below.refl w.heap.size w
  have hA := below_alloc1 w (.cells #[.int .i64 a, .int .i64 b] 29)
  have hxc := Box.new w 29 #[.int .i64 a, .int .i64 b]
  replace h := Below.step h hA
  clear hA
  have hA := below_alloc1 (w.alloc (.cells #[.int .i64 a, .int .i64 b] 29)) (.cells #[.int .i64 p.x, .int .i64 p.y, .int .i64 p.e] 26)
  have hxp := Box.new (w.alloc (.cells #[.int .i64 a, .int .i64 b] 29)) 26 #[.int .i64 p.x, .int .i64 p.y, .int .i64 p.e]
  rw [show (w.alloc (.cells #[.int .i64 a, .int .i64 b] 29)).heap.size = w.heap.size + 1 from by simp] at hxp
  replace h := Below.step h hA
  replace hxc := hxc.kept hA
  clear hA
  have hA := below_alloc1 ((w.alloc (.cells #[.int .i64 a, .int .i64 b] 29)).alloc (.cells #[.int .i64 p.x, .int .i64 p.y, .int .i64 p.e] 26)) (.cells #[.int .i64 0, .int .i64 0, .int .i64 0] 26)
  have hxr := Box.new ((w.alloc (.cells #[.int .i64 a, .int .i64 b] 29)).alloc (.cells #[.int .i64 p.x, .int .i64 p.y, .int .i64 p.e] 26)) 26 #[.int .i64 0, .int .i64 0, .int .i64 0]
  rw [show ((w.alloc (.cells #[.int .i64 a, .int .i64 b] 29)).alloc (.cells #[.int .i64 p.x, .int .i64 p.y, .int .i64 p.e] 26)).heap.size = w.heap.size + 2 from by simp] at hxr
  replace h := Below.step h hA
  replace hxc := hxc.kept hA
  replace hxp := hxp.kept hA
  clear hA
  obtain ⟨kc0, kc1⟩ := hxc.two
  have lc := hxc.lt
  obtain ⟨kp0, kp1, kp2⟩ := hxp.three
  have lp := hxp.lt
  obtain ⟨kr0, kr1, kr2⟩ := hxr.three
  have lr := hxr.lt
  go_enter Tryd.func18, Tryd.ntmps18
  go_wp2_with fail
  refine (c1.out _).mono ?_
  rintro e w1 ⟨rfl, hb⟩
  replace h := Below.step h hb
  replace hxc := hxc.kept hb
  replace hxp := hxp.kept hb
  replace hxr := hxr.kept hb
  clear hb kc0 kc1 lc kp0 kp1 kp2 lp kr0 kr1 kr2 lr
  obtain ⟨kc0, kc1⟩ := hxc.two
  have lc := hxc.lt
  obtain ⟨kp0, kp1, kp2⟩ := hxp.three
  have lp := hxp.lt
  obtain ⟨kr0, kr1, kr2⟩ := hxr.three
  have lr := hxr.lt
  have fr0 := hxr.free 0
  have fr1 := hxr.free 1
  have fr2 := hxr.free 2
  obtain ⟨sr0, sr1, sr2⟩ := (((hxr.set 0 (.int .i64 0)).set 1 (.int .i64 0)).set 2 (.int .i64 0)).three
  go_wp2_with fail
  refine bodyPost_ret (v := .tuple #[.agg #[.int .i64 0, .int .i64 0, .int .i64 0], .bool ok]) (by simp [results, Tryd.results18, go_sem, sr0, sr1, sr2]) (by rfl) ⟨by rfl, ?_⟩
  exact below_sets3 h (by omega) _ _ _


set_option maxHeartbeats 1000000 in
set_option maxRecDepth 100000 in
theorem mulI_posN (a b : Int) (p : P3) (n : Int) (w : World) (hL : Lim w) (hn : 1 ≤ n) (c1 : ∀ W : World, Lim W → Calls Tryd.prog 20 #[.agg #[.int .i64 a, .int .i64 b], .agg #[.int .i64 p.x, .int .i64 p.y, .int .i64 p.e], .int .i64 n] W (GivesPRowOk W [] false)) : Calls Tryd.prog 18 #[.agg #[.int .i64 a, .int .i64 b], .agg #[.int .i64 p.x, .int .i64 p.y, .int .i64 p.e], .int .i64 n] w (GivesPB w 0 0 0 false) := by
  have e0 : (n == 0) = false := by simp; omega
  replace c1 := Lib.hid c1
  have h := Below.refl w.heap.size w
  have hA := below_alloc1 w (.cells #[.int .i64 a, .int .i64 b] 29)
  have hxc := Box.new w 29 #[.int .i64 a, .int .i64 b]
  replace h := Below.step h hA
  clear hA
  have hA := below_alloc1 (w.alloc (.cells #[.int .i64 a, .int .i64 b] 29)) (.cells #[.int .i64 p.x, .int .i64 p.y, .int .i64 p.e] 26)
  have hxp := Box.new (w.alloc (.cells #[.int .i64 a, .int .i64 b] 29)) 26 #[.int .i64 p.x, .int .i64 p.y, .int .i64 p.e]
  rw [show (w.alloc (.cells #[.int .i64 a, .int .i64 b] 29)).heap.size = w.heap.size + 1 from by simp] at hxp
  replace h := Below.step h hA
  replace hxc := hxc.kept hA
  clear hA
  have hA := below_alloc1 ((w.alloc (.cells #[.int .i64 a, .int .i64 b] 29)).alloc (.cells #[.int .i64 p.x, .int .i64 p.y, .int .i64 p.e] 26)) (.cells #[.int .i64 0, .int .i64 0, .int .i64 0] 26)
  have hxr := Box.new ((w.alloc (.cells #[.int .i64 a, .int .i64 b] 29)).alloc (.cells #[.int .i64 p.x, .int .i64 p.y, .int .i64 p.e] 26)) 26 #[.int .i64 0, .int .i64 0, .int .i64 0]
  rw [show ((w.alloc (.cells #[.int .i64 a, .int .i64 b] 29)).alloc (.cells #[.int .i64 p.x, .int .i64 p.y, .int .i64 p.e] 26)).heap.size = w.heap.size + 2 from by simp] at hxr
  replace h := Below.step h hA
  replace hxc := hxc.kept hA
  replace hxp := hxp.kept hA
  clear hA
  obtain ⟨kc0, kc1⟩ := hxc.two
  have lc := hxc.lt
  obtain ⟨kp0, kp1, kp2⟩ := hxp.three
  have lp := hxp.lt
  obtain ⟨kr0, kr1, kr2⟩ := hxr.three
  have lr := hxr.lt
  replace hL := hL.kept h
  go_enter Tryd.func18, Tryd.ntmps18
  go_wp2_with fail
  refine (c1.out _ hL).mono ?_
  rintro e w1 ⟨A, c, rfl, ho, hb⟩
  clear ho
  replace h := Below.step h hb
  replace hxc := hxc.kept hb
  replace hxp := hxp.kept hb
  replace hxr := hxr.kept hb
  replace hL := hL.kept hb
  clear hb kc0 kc1 lc kp0 kp1 kp2 lp kr0 kr1 kr2 lr
  obtain ⟨kc0, kc1⟩ := hxc.two
  have lc := hxc.lt
  obtain ⟨kp0, kp1, kp2⟩ := hxp.three
  have lp := hxp.lt
  obtain ⟨kr0, kr1, kr2⟩ := hxr.three
  have lr := hxr.lt
  have fr0 := hxr.free 0
  have fr1 := hxr.free 1
  have fr2 := hxr.free 2
  obtain ⟨sr0, sr1, sr2⟩ := (((hxr.set 0 (.int .i64 0)).set 1 (.int .i64 0)).set 2 (.int .i64 0)).three
  go_wp2_with fail
  refine bodyPost_ret (v := .tuple #[.agg #[.int .i64 0, .int .i64 0, .int .i64 0], .bool false]) (by simp [results, Tryd.results18, go_sem, sr0, sr1, sr2]) (by rfl) ⟨by rfl, ?_⟩
  exact below_sets3 h (by omega) _ _ _


set_option maxHeartbeats 1000000 in
set_option maxRecDepth 100000 in
theorem mulI_posS (a b : Int) (p : P3) (w : World) (hL : Lim w) (k : Nat) (hk : k ≤ 11) (L : List P3) (hl : L.length = k + 1) (s : P3) (hs : Hid (L[k]?.getD .zero = s)) (c1 : ∀ W : World, Lim W → Calls Tryd.prog 20 #[.agg #[.int .i64 a, .int .i64 b], .agg #[.int .i64 p.x, .int .i64 p.y, .int .i64 p.e], .int .i64 ((k : Int) + 1)] W (GivesPRowOk W L true)) : Calls Tryd.prog 18 #[.agg #[.int .i64 a, .int .i64 b], .agg #[.int .i64 p.x, .int .i64 p.y, .int .i64 p.e], .int .i64 ((k : Int) + 1)] w (GivesPB w s.x s.y s.e true) := by
  have e0 : ((k : Int) + 1 == 0) = false := by simp; omega
  have hk2 : (k : Int) ≤ 11 := by omega
  have hl2 : (L.length : Int) = k + 1 := by omega
  replace c1 := Lib.hid c1
  have h := Below.refl w.heap.size w
  have hA := below_alloc1 w (.cells #[.int .i64 a, .int .i64 b] 29)
  have hxc := Box.new w 29 #[.int .i64 a, .int .i64 b]
  replace h := Below.step h hA
  clear hA
  have hA := below_alloc1 (w.alloc (.cells #[.int .i64 a, .int .i64 b] 29)) (.cells #[.int .i64 p.x, .int .i64 p.y, .int .i64 p.e] 26)
  have hxp := Box.new (w.alloc (.cells #[.int .i64 a, .int .i64 b] 29)) 26 #[.int .i64 p.x, .int .i64 p.y, .int .i64 p.e]
  rw [show (w.alloc (.cells #[.int .i64 a, .int .i64 b] 29)).heap.size = w.heap.size + 1 from by simp] at hxp
  replace h := Below.step h hA
  replace hxc := hxc.kept hA
  clear hA
  have hA := below_alloc1 ((w.alloc (.cells #[.int .i64 a, .int .i64 b] 29)).alloc (.cells #[.int .i64 p.x, .int .i64 p.y, .int .i64 p.e] 26)) (.cells #[.int .i64 0, .int .i64 0, .int .i64 0] 26)
  have hxr := Box.new ((w.alloc (.cells #[.int .i64 a, .int .i64 b] 29)).alloc (.cells #[.int .i64 p.x, .int .i64 p.y, .int .i64 p.e] 26)) 26 #[.int .i64 0, .int .i64 0, .int .i64 0]
  rw [show ((w.alloc (.cells #[.int .i64 a, .int .i64 b] 29)).alloc (.cells #[.int .i64 p.x, .int .i64 p.y, .int .i64 p.e] 26)).heap.size = w.heap.size + 2 from by simp] at hxr
  replace h := Below.step h hA
  replace hxc := hxc.kept hA
  replace hxp := hxp.kept hA
  clear hA
  obtain ⟨kc0, kc1⟩ := hxc.two
  have lc := hxc.lt
  obtain ⟨kp0, kp1, kp2⟩ := hxp.three
  have lp := hxp.lt
  obtain ⟨kr0, kr1, kr2⟩ := hxr.three
  have lr := hxr.lt
  replace hL := hL.kept h
  go_enter Tryd.func18, Tryd.ntmps18
  go_wp2_with fail
  refine (c1.out _ hL).mono ?_
  rintro e w1 ⟨A, c, rfl, ho, hb⟩
  obtain ⟨gb, go, rfl, hgb, hcs⟩ := ho.rd.2 (by omega)
  obtain ⟨f0, f1, f2⟩ := pflat_at L k (by omega)
  have r0 : w1.cell? ⟨gb, go + k * 3, none⟩ = some (.int .i64 s.x) := by rw [← hs.out, ← f0, Nat.mul_comm k 3]; exact hcs (3 * k) (by omega)
  have r1 : w1.cell? ⟨gb, go + k * 3 + 1, none⟩ = some (.int .i64 s.y) := by rw [← hs.out, ← f1, Nat.mul_comm k 3]; exact hcs (3 * k + 1) (by omega)
  have r2 : w1.cell? ⟨gb, go + k * 3 + 2, none⟩ = some (.int .i64 s.e) := by rw [← hs.out, ← f2, Nat.mul_comm k 3]; exact hcs (3 * k + 2) (by omega)
  clear ho hcs f0 f1 f2
  replace h := Below.step h hb
  replace hxc := hxc.kept hb
  replace hxp := hxp.kept hb
  replace hxr := hxr.kept hb
  replace hL := hL.kept hb
  clear hb kc0 kc1 lc kp0 kp1 kp2 lp kr0 kr1 kr2 lr
  obtain ⟨kc0, kc1⟩ := hxc.two
  have lc := hxc.lt
  obtain ⟨kp0, kp1, kp2⟩ := hxp.three
  have lp := hxp.lt
  obtain ⟨kr0, kr1, kr2⟩ := hxr.three
  have lr := hxr.lt
  have fr0 := hxr.free 0
  have fr1 := hxr.free 1
  have fr2 := hxr.free 2
  obtain ⟨sr0, sr1, sr2⟩ := (((hxr.set 0 (.int .i64 s.x)).set 1 (.int .i64 s.y)).set 2 (.int .i64 s.e)).three
  go_wp2_with fail
  refine bodyPost_ret (v := .tuple #[.agg #[.int .i64 s.x, .int .i64 s.y, .int .i64 s.e], .bool true]) (by simp [results, Tryd.results18, go_sem, sr0, sr1, sr2]) (by rfl) ⟨by rfl, ?_⟩
  exact below_sets3 h (by omega) _ _ _


set_option maxHeartbeats 1000000 in
set_option maxRecDepth 100000 in
theorem mulI_negN (a b : Int) (p : P3) (n : Int) (w : World) (hL : Lim w) (hn : n < 0) (c1 : ∀ W : World, Lim W → Calls Tryd.prog 20 #[.agg #[.int .i64 a, .int .i64 b], .agg #[.int .i64 p.x, .int .i64 (wrap64 (-p.y)), .int .i64 p.e], .int .i64 (wrap64 (-n))] W (GivesPRowOk W [] false)) : Calls Tryd.prog 18 #[.agg #[.int .i64 a, .int .i64 b], .agg #[.int .i64 p.x, .int .i64 p.y, .int .i64 p.e], .int .i64 n] w (GivesPB w 0 0 0 false) := by
  have e0 : (n == 0) = false := by simp; omega
  replace c1 := Lib.hid c1
  have hlw := hL.lt
  have h := Below.refl w.heap.size w
  have hA := below_alloc1 w (.cells #[.int .i64 a, .int .i64 b] 29)
  have hxc := Box.new w 29 #[.int .i64 a, .int .i64 b]
  replace h := Below.step h hA
  clear hA
  have hA := below_alloc1 (w.alloc (.cells #[.int .i64 a, .int .i64 b] 29)) (.cells #[.int .i64 p.x, .int .i64 p.y, .int .i64 p.e] 26)
  have hxp := Box.new (w.alloc (.cells #[.int .i64 a, .int .i64 b] 29)) 26 #[.int .i64 p.x, .int .i64 p.y, .int .i64 p.e]
  rw [show (w.alloc (.cells #[.int .i64 a, .int .i64 b] 29)).heap.size = w.heap.size + 1 from by simp] at hxp
  replace h := Below.step h hA
  replace hxc := hxc.kept hA
  clear hA
  have hA := below_alloc1 ((w.alloc (.cells #[.int .i64 a, .int .i64 b] 29)).alloc (.cells #[.int .i64 p.x, .int .i64 p.y, .int .i64 p.e] 26)) (.cells #[.int .i64 0, .int .i64 0, .int .i64 0] 26)
  have hxr := Box.new ((w.alloc (.cells #[.int .i64 a, .int .i64 b] 29)).alloc (.cells #[.int .i64 p.x, .int .i64 p.y, .int .i64 p.e] 26)) 26 #[.int .i64 0, .int .i64 0, .int .i64 0]
  rw [show ((w.alloc (.cells #[.int .i64 a, .int .i64 b] 29)).alloc (.cells #[.int .i64 p.x, .int .i64 p.y, .int .i64 p.e] 26)).heap.size = w.heap.size + 2 from by simp] at hxr
  replace h := Below.step h hA
  replace hxc := hxc.kept hA
  replace hxp := hxp.kept hA
  clear hA
  obtain ⟨kc0, kc1⟩ := hxc.two
  have lc := hxc.lt
  obtain ⟨kp0, kp1, kp2⟩ := hxp.three
  have lp := hxp.lt
  obtain ⟨kr0, kr1, kr2⟩ := hxr.three
  have lr := hxr.lt
  replace hL := hL.kept h
  go_enter Tryd.func18, Tryd.ntmps18
  go_wp2_with fail
  refine (oppI_w p _).mono ?_
  rintro e w1 ⟨rfl, hb⟩
  replace h := Below.step h hb
  replace hxc := hxc.kept hb
  replace hxp := hxp.kept hb
  replace hxr := hxr.kept hb
  replace hL := hL.kept hb
  clear hb kc0 kc1 lc kp0 kp1 kp2 lp kr0 kr1 kr2 lr
  obtain ⟨kc0, kc1⟩ := hxc.two
  have lc := hxc.lt
  obtain ⟨kp0, kp1, kp2⟩ := hxp.three
  have lp := hxp.lt
  obtain ⟨kr0, kr1, kr2⟩ := hxr.three
  have lr := hxr.lt
  have hlim := hL.lt
  have fp0 := hxp.free 0
  have fp1 := hxp.free 1
  have fp2 := hxp.free 2
  have hps := hxp.set3 (.int .i64 p.x) (.int .i64 (wrap64 (-p.y))) (.int .i64 p.e)
  obtain ⟨t0, t1, t2⟩ := hps.three
  go_wp2_with fail
  replace h : Below w.heap.size w (((w1.setCell ⟨w.heap.size + 1, 0, none⟩ (.int .i64 p.x)).setCell ⟨w.heap.size + 1, 1, none⟩ (.int .i64 (wrap64 (-p.y)))).setCell ⟨w.heap.size + 1, 2, none⟩ (.int .i64 p.e)) := below_sets3 h (by omega) _ _ _
  replace hxc : Box (((w1.setCell ⟨w.heap.size + 1, 0, none⟩ (.int .i64 p.x)).setCell ⟨w.heap.size + 1, 1, none⟩ (.int .i64 (wrap64 (-p.y)))).setCell ⟨w.heap.size + 1, 2, none⟩ (.int .i64 p.e)) _ _ _ := hxc.off3 (by omega) _ _ _
  replace hxr : Box (((w1.setCell ⟨w.heap.size + 1, 0, none⟩ (.int .i64 p.x)).setCell ⟨w.heap.size + 1, 1, none⟩ (.int .i64 (wrap64 (-p.y)))).setCell ⟨w.heap.size + 1, 2, none⟩ (.int .i64 p.e)) _ _ _ := hxr.off3 (by omega) _ _ _
  replace hL : Lim (((w1.setCell ⟨w.heap.size + 1, 0, none⟩ (.int .i64 p.x)).setCell ⟨w.heap.size + 1, 1, none⟩ (.int .i64 (wrap64 (-p.y)))).setCell ⟨w.heap.size + 1, 2, none⟩ (.int .i64 p.e)) := hL.off3 (g := w.heap.size + 1) (by omega) _ _ _
  clear hxp fp0 fp1 fp2 t0 t1 t2
  clear kc0 kc1 lc kp0 kp1 kp2 lp kr0 kr1 kr2 lr
  have hws : w.heap.size + 1 < (((w1.setCell ⟨w.heap.size + 1, 0, none⟩ (.int .i64 p.x)).setCell ⟨w.heap.size + 1, 1, none⟩ (.int .i64 (wrap64 (-p.y)))).setCell ⟨w.heap.size + 1, 2, none⟩ (.int .i64 p.e)).heap.size := hps.lt
  generalize (((w1.setCell ⟨w.heap.size + 1, 0, none⟩ (.int .i64 p.x)).setCell ⟨w.heap.size + 1, 1, none⟩ (.int .i64 (wrap64 (-p.y)))).setCell ⟨w.heap.size + 1, 2, none⟩ (.int .i64 p.e)) = wp at *
  obtain ⟨kc0, kc1⟩ := hxc.two
  have lc := hxc.lt
  obtain ⟨kr0, kr1, kr2⟩ := hxr.three
  have lr := hxr.lt
  refine (c1.out _ hL).mono ?_
  rintro e w2 ⟨A, c, rfl, ho, hb⟩
  clear ho
  replace h := Below.step h hb
  replace hxc := hxc.kept hb
  replace hxr := hxr.kept hb
  replace hL := hL.kept hb
  clear hb kc0 kc1 lc kr0 kr1 kr2 lr
  obtain ⟨kc0, kc1⟩ := hxc.two
  have lc := hxc.lt
  obtain ⟨kr0, kr1, kr2⟩ := hxr.three
  have lr := hxr.lt
  have fr0 := hxr.free 0
  have fr1 := hxr.free 1
  have fr2 := hxr.free 2
  obtain ⟨sr0, sr1, sr2⟩ := (((hxr.set 0 (.int .i64 0)).set 1 (.int .i64 0)).set 2 (.int .i64 0)).three
  go_wp2_with fail
  refine bodyPost_ret (v := .tuple #[.agg #[.int .i64 0, .int .i64 0, .int .i64 0], .bool false]) (by simp [results, Tryd.results18, go_sem, sr0, sr1, sr2]) (by rfl) ⟨by rfl, ?_⟩
  exact below_sets3 h (by omega) _ _ _


set_option maxHeartbeats 1000000 in
set_option maxRecDepth 100000 in
theorem mulI_negS (a b : Int) (p : P3) (w : World) (hL : Lim w) (hy : -9223372036854775807 ≤ p.y ∧ p.y ≤ 9223372036854775807) (k : Nat) (hk : k ≤ 11) (L : List P3) (hl : L.length = k + 1) (s : P3) (hs : Hid (L[k]?.getD .zero = s)) (c1 : ∀ W : World, Lim W → Calls Tryd.prog 20 #[.agg #[.int .i64 a, .int .i64 b], .agg #[.int .i64 p.x, .int .i64 (-p.y), .int .i64 p.e], .int .i64 ((k : Int) + 1)] W (GivesPRowOk W L true)) : Calls Tryd.prog 18 #[.agg #[.int .i64 a, .int .i64 b], .agg #[.int .i64 p.x, .int .i64 p.y, .int .i64 p.e], .int .i64 (-((k : Int) + 1))] w (GivesPB w s.x s.y s.e true) := by
  have e0 : (-((k : Int) + 1) == 0) = false := by simp; omega
  have hk2 : (k : Int) ≤ 11 := by omega
  have hl2 : (L.length : Int) = k + 1 := by omega
  replace c1 := Lib.hid c1
  have hlw := hL.lt
  have h := Below.refl w.heap.size w
  have hA := below_alloc1 w (.cells #[.int .i64 a, .int .i64 b] 29)
  have hxc := Box.new w 29 #[.int .i64 a, .int .i64 b]
  replace h := Below.step h hA
  clear hA
  have hA := below_alloc1 (w.alloc (.cells #[.int .i64 a, .int .i64 b] 29)) (.cells #[.int .i64 p.x, .int .i64 p.y, .int .i64 p.e] 26)
  have hxp := Box.new (w.alloc (.cells #[.int .i64 a, .int .i64 b] 29)) 26 #[.int .i64 p.x, .int .i64 p.y, .int .i64 p.e]
  rw [show (w.alloc (.cells #[.int .i64 a, .int .i64 b] 29)).heap.size = w.heap.size + 1 from by simp] at hxp
  replace h := Below.step h hA
  replace hxc := hxc.kept hA
  clear hA
  have hA := below_alloc1 ((w.alloc (.cells #[.int .i64 a, .int .i64 b] 29)).alloc (.cells #[.int .i64 p.x, .int .i64 p.y, .int .i64 p.e] 26)) (.cells #[.int .i64 0, .int .i64 0, .int .i64 0] 26)
  have hxr := Box.new ((w.alloc (.cells #[.int .i64 a, .int .i64 b] 29)).alloc (.cells #[.int .i64 p.x, .int .i64 p.y, .int .i64 p.e] 26)) 26 #[.int .i64 0, .int .i64 0, .int .i64 0]
  rw [show ((w.alloc (.cells #[.int .i64 a, .int .i64 b] 29)).alloc (.cells #[.int .i64 p.x, .int .i64 p.y, .int .i64 p.e] 26)).heap.size = w.heap.size + 2 from by simp] at hxr
  replace h := Below.step h hA
  replace hxc := hxc.kept hA
  replace hxp := hxp.kept hA
  clear hA
  obtain ⟨kc0, kc1⟩ := hxc.two
  have lc := hxc.lt
  obtain ⟨kp0, kp1, kp2⟩ := hxp.three
  have lp := hxp.lt
  obtain ⟨kr0, kr1, kr2⟩ := hxr.three
  have lr := hxr.lt
  replace hL := hL.kept h
  go_enter Tryd.func18, Tryd.ntmps18
  go_wp2_with fail
  refine (oppI_any p _ hy).mono ?_
  rintro e w1 ⟨rfl, hb⟩
  replace h := Below.step h hb
  replace hxc := hxc.kept hb
  replace hxp := hxp.kept hb
  replace hxr := hxr.kept hb
  replace hL := hL.kept hb
  clear hb kc0 kc1 lc kp0 kp1 kp2 lp kr0 kr1 kr2 lr
  obtain ⟨kc0, kc1⟩ := hxc.two
  have lc := hxc.lt
  obtain ⟨kp0, kp1, kp2⟩ := hxp.three
  have lp := hxp.lt
  obtain ⟨kr0, kr1, kr2⟩ := hxr.three
  have lr := hxr.lt
  have hlim := hL.lt
  have fp0 := hxp.free 0
  have fp1 := hxp.free 1
  have fp2 := hxp.free 2
  have hps := hxp.set3 (.int .i64 p.x) (.int .i64 (-p.y)) (.int .i64 p.e)
  obtain ⟨t0, t1, t2⟩ := hps.three
  go_wp2_with fail
  replace h : Below w.heap.size w (((w1.setCell ⟨w.heap.size + 1, 0, none⟩ (.int .i64 p.x)).setCell ⟨w.heap.size + 1, 1, none⟩ (.int .i64 (-p.y))).setCell ⟨w.heap.size + 1, 2, none⟩ (.int .i64 p.e)) := below_sets3 h (by omega) _ _ _
  replace hxc : Box (((w1.setCell ⟨w.heap.size + 1, 0, none⟩ (.int .i64 p.x)).setCell ⟨w.heap.size + 1, 1, none⟩ (.int .i64 (-p.y))).setCell ⟨w.heap.size + 1, 2, none⟩ (.int .i64 p.e)) _ _ _ := hxc.off3 (by omega) _ _ _
  replace hxr : Box (((w1.setCell ⟨w.heap.size + 1, 0, none⟩ (.int .i64 p.x)).setCell ⟨w.heap.size + 1, 1, none⟩ (.int .i64 (-p.y))).setCell ⟨w.heap.size + 1, 2, none⟩ (.int .i64 p.e)) _ _ _ := hxr.off3 (by omega) _ _ _
  replace hL : Lim (((w1.setCell ⟨w.heap.size + 1, 0, none⟩ (.int .i64 p.x)).setCell ⟨w.heap.size + 1, 1, none⟩ (.int .i64 (-p.y))).setCell ⟨w.heap.size + 1, 2, none⟩ (.int .i64 p.e)) := hL.off3 (g := w.heap.size + 1) (by omega) _ _ _
  clear hxp fp0 fp1 fp2 t0 t1 t2
  clear kc0 kc1 lc kp0 kp1 kp2 lp kr0 kr1 kr2 lr
  have hws : w.heap.size + 1 < (((w1.setCell ⟨w.heap.size + 1, 0, none⟩ (.int .i64 p.x)).setCell ⟨w.heap.size + 1, 1, none⟩ (.int .i64 (-p.y))).setCell ⟨w.heap.size + 1, 2, none⟩ (.int .i64 p.e)).heap.size := hps.lt
  generalize (((w1.setCell ⟨w.heap.size + 1, 0, none⟩ (.int .i64 p.x)).setCell ⟨w.heap.size + 1, 1, none⟩ (.int .i64 (-p.y))).setCell ⟨w.heap.size + 1, 2, none⟩ (.int .i64 p.e)) = wp at *
  obtain ⟨kc0, kc1⟩ := hxc.two
  have lc := hxc.lt
  obtain ⟨kr0, kr1, kr2⟩ := hxr.three
  have lr := hxr.lt
  refine (c1.out _ hL).mono ?_
  rintro e w2 ⟨A, c, rfl, ho, hb⟩
  obtain ⟨gb, go, rfl, hgb, hcs⟩ := ho.rd.2 (by omega)
  obtain ⟨f0, f1, f2⟩ := pflat_at L k (by omega)
  have r0 : w2.cell? ⟨gb, go + k * 3, none⟩ = some (.int .i64 s.x) := by rw [← hs.out, ← f0, Nat.mul_comm k 3]; exact hcs (3 * k) (by omega)
  have r1 : w2.cell? ⟨gb, go + k * 3 + 1, none⟩ = some (.int .i64 s.y) := by rw [← hs.out, ← f1, Nat.mul_comm k 3]; exact hcs (3 * k + 1) (by omega)
  have r2 : w2.cell? ⟨gb, go + k * 3 + 2, none⟩ = some (.int .i64 s.e) := by rw [← hs.out, ← f2, Nat.mul_comm k 3]; exact hcs (3 * k + 2) (by omega)
  clear ho hcs f0 f1 f2
  replace h := Below.step h hb
  replace hxc := hxc.kept hb
  replace hxr := hxr.kept hb
  replace hL := hL.kept hb
  clear hb kc0 kc1 lc kr0 kr1 kr2 lr
  obtain ⟨kc0, kc1⟩ := hxc.two
  have lc := hxc.lt
  obtain ⟨kr0, kr1, kr2⟩ := hxr.three
  have lr := hxr.lt
  have fr0 := hxr.free 0
  have fr1 := hxr.free 1
  have fr2 := hxr.free 2
  obtain ⟨sr0, sr1, sr2⟩ := (((hxr.set 0 (.int .i64 s.x)).set 1 (.int .i64 s.y)).set 2 (.int .i64 s.e)).three
  go_wp2_with fail
  refine bodyPost_ret (v := .tuple #[.agg #[.int .i64 s.x, .int .i64 s.y, .int .i64 s.e], .bool true]) (by simp [results, Tryd.results18, go_sem, sr0, sr1, sr2]) (by rfl) ⟨by rfl, ?_⟩
  exact below_sets3 h (by omega) _ _ _

end Go.Proofs.YtabcnkobojkdhaaDoor
