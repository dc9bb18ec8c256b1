/- The program's multiples of points modulo a prime (written by wip/gen/fmi4.py). -/
import Derived.Test.YtbgoiflkpefckaaFmI3
import Derived.Test.YtbgoiflkpefckaaFmMul
import Derived.Test.YtbgoiflkpefckaaFRw
import Derived.Deep.RegionHeld3
import Derived.Deep.DeepCutAuto
namespace Go.Proofs.Ytbgoiflkpefckaa
open Go.RowKit Go.Joins

theorem Box.off {w : World} {g g' i : Nat} {t : TypeId} {cs : Array Value} (h : Box w g t cs) (hne : g ≠ g') (u : Value) : Box (w.setCell ⟨g', i, none⟩ u) g t cs := (heap_setCell_other w ⟨g', i, none⟩ g u hne).trans h
theorem Box.off3 {w : World} {g g' : Nat} {t : TypeId} {cs : Array Value} (h : Box w g t cs) (hne : g ≠ g') (u v s : Value) : Box (((w.setCell ⟨g', 0, none⟩ u).setCell ⟨g', 1, none⟩ v).setCell ⟨g', 2, none⟩ s) g t cs :=
  ((h.off hne u).off hne v).off hne s
theorem Box.set3 {w : World} {g : Nat} {t : TypeId} {x y z : Value} (h : Box w g t #[x, y, z]) (u v s : Value) : Box (((w.setCell ⟨g, 0, none⟩ u).setCell ⟨g, 1, none⟩ v).setCell ⟨g, 2, none⟩ s) g t #[u, v, s] :=
  ((h.set 0 u).set 1 v).set 2 s
theorem fp_zero {s : FP} : (fpx s == 0 && fpy s == 0 && fpz s == 0) = decide (s = none) := by
  rcases s with _ | ⟨x, y⟩
  · rfl
  · simp [fpx, fpy, fpz]

set_option maxHeartbeats 2000000 in
set_option maxRecDepth 100000 in
theorem times_any {a b : Int} {p : Nat} (G : FG a b p) (N : Nat) (s : FP) (w : World) (hN : N ≤ 1000000000) (hs : FOn a b p s) : Calls Try.prog 64 #[.agg #[.int .i64 (rs p a : Int), .int .i64 (rs p b : Int), .int .i64 (p : Int)], .int .i64 (N : Int), .agg #[.int .i64 (fpx s), .int .i64 (fpy s), .int .i64 (fpz s)]] w (GivesF7 w (fmul a p N s)) := by
  have hpp := G.five
  have h := Below.refl w.heap.size w
  have hA := below_alloc1 w (.cells #[.int .i64 (rs p a : Int), .int .i64 (rs p b : Int), .int .i64 (p : Int)] 62)
  have hxf := Box.new w 62 #[.int .i64 (rs p a : Int), .int .i64 (rs p b : Int), .int .i64 (p : Int)]
  replace h := Below.step h hA
  clear hA
  have hA := below_alloc1 (w.alloc (.cells #[.int .i64 (rs p a : Int), .int .i64 (rs p b : Int), .int .i64 (p : Int)] 62)) (.cells #[.int .i64 (fpx s), .int .i64 (fpy s), .int .i64 (fpz s)] 70)
  have hxs := Box.new (w.alloc (.cells #[.int .i64 (rs p a : Int), .int .i64 (rs p b : Int), .int .i64 (p : Int)] 62)) 70 #[.int .i64 (fpx s), .int .i64 (fpy s), .int .i64 (fpz s)]
  rw [show (w.alloc (.cells #[.int .i64 (rs p a : Int), .int .i64 (rs p b : Int), .int .i64 (p : Int)] 62)).heap.size = w.heap.size + 1 from by simp] at hxs
  replace h := Below.step h hA
  replace hxf := hxf.kept hA
  clear hA
  have hA := below_alloc1 ((w.alloc (.cells #[.int .i64 (rs p a : Int), .int .i64 (rs p b : Int), .int .i64 (p : Int)] 62)).alloc (.cells #[.int .i64 (fpx s), .int .i64 (fpy s), .int .i64 (fpz s)] 70)) (.cells #[.int .i64 0, .int .i64 0, .int .i64 0] 70)
  have hxr := Box.new ((w.alloc (.cells #[.int .i64 (rs p a : Int), .int .i64 (rs p b : Int), .int .i64 (p : Int)] 62)).alloc (.cells #[.int .i64 (fpx s), .int .i64 (fpy s), .int .i64 (fpz s)] 70)) 70 #[.int .i64 0, .int .i64 0, .int .i64 0]
  rw [show ((w.alloc (.cells #[.int .i64 (rs p a : Int), .int .i64 (rs p b : Int), .int .i64 (p : Int)] 62)).alloc (.cells #[.int .i64 (fpx s), .int .i64 (fpy s), .int .i64 (fpz s)] 70)).heap.size = w.heap.size + 2 from by simp] at hxr
  replace h := Below.step h hA
  replace hxf := hxf.kept hA
  replace hxs := hxs.kept hA
  clear hA
  have hA := below_alloc1 (((w.alloc (.cells #[.int .i64 (rs p a : Int), .int .i64 (rs p b : Int), .int .i64 (p : Int)] 62)).alloc (.cells #[.int .i64 (fpx s), .int .i64 (fpy s), .int .i64 (fpz s)] 70)).alloc (.cells #[.int .i64 0, .int .i64 0, .int .i64 0] 70)) (.cells #[.int .i64 0, .int .i64 0, .int .i64 0] 70)
  have hxo := Box.new (((w.alloc (.cells #[.int .i64 (rs p a : Int), .int .i64 (rs p b : Int), .int .i64 (p : Int)] 62)).alloc (.cells #[.int .i64 (fpx s), .int .i64 (fpy s), .int .i64 (fpz s)] 70)).alloc (.cells #[.int .i64 0, .int .i64 0, .int .i64 0] 70)) 70 #[.int .i64 0, .int .i64 0, .int .i64 0]
  rw [show (((w.alloc (.cells #[.int .i64 (rs p a : Int), .int .i64 (rs p b : Int), .int .i64 (p : Int)] 62)).alloc (.cells #[.int .i64 (fpx s), .int .i64 (fpy s), .int .i64 (fpz s)] 70)).alloc (.cells #[.int .i64 0, .int .i64 0, .int .i64 0] 70)).heap.size = w.heap.size + 3 from by simp] at hxo
  replace h := Below.step h hA
  replace hxf := hxf.kept hA
  replace hxs := hxs.kept hA
  replace hxr := hxr.kept hA
  clear hA
  obtain ⟨kf0, kf1, kf2⟩ := hxf.three
  have lf := hxf.lt
  obtain ⟨ks0, ks1, ks2⟩ := hxs.three
  have ls := hxs.lt
  obtain ⟨kr0, kr1, kr2⟩ := hxr.three
  have lr := hxr.lt
  obtain ⟨ko0, ko1, ko2⟩ := hxo.three
  have lo := hxo.lt
  have hN0 : (0 : Int) ≤ N := by omega
  go_enter Try.func64, Try.ntmps64
  go_wp2_with fail
  clear kf0 kf1 kf2 lf ks0 ks1 ks2 ls kr0 kr1 kr2 lr ko0 ko1 ko2 lo
  go_loopw [1] (fun n wr => ∃ (m : Nat) (o x : FP), n = .int .i64 m ∧ m ≤ 1000000000 ∧ Hid (FOn a b p o ∧ FOn a b p x ∧ fadd a p o (fmul a p m x) = fmul a p N s) ∧ Below w.heap.size w wr ∧ Box wr w.heap.size 62 #[.int .i64 (rs p a : Int), .int .i64 (rs p b : Int), .int .i64 (p : Int)] ∧ Box wr (w.heap.size + 1) 70 #[.int .i64 (fpx x), .int .i64 (fpy x), .int .i64 (fpz x)] ∧ Box wr (w.heap.size + 2) 70 #[.int .i64 0, .int .i64 0, .int .i64 0] ∧ Box wr (w.heap.size + 3) 70 #[.int .i64 (fpx o), .int .i64 (fpy o), .int .i64 (fpz o)]) (fun n _ => (intOf n).toNat)
  case atStart => exact ⟨N, none, s, rfl, hN, ⟨trivial, hs, rfl⟩, h, hxf, hxs, hxr, hxo⟩
  case round =>
    clear h hxf hxs hxr hxo
    obtain ⟨m, o, x, rfl, hm, hi, h, hxf, hxs, hxr, hxo⟩ := hrel
    obtain ⟨ho, hx, he⟩ := hi.out
    clear hi
    by_cases h0 : m = 0
    · subst h0
      have hr : Hid (o = fmul a p N s) := (fadd_zero a p o).symm.trans he
      clear he ho hx hs
      obtain ⟨kf0, kf1, kf2⟩ := hxf.three
      have lf := hxf.lt
      obtain ⟨ks0, ks1, ks2⟩ := hxs.three
      have ls := hxs.lt
      obtain ⟨kr0, kr1, kr2⟩ := hxr.three
      have lr := hxr.lt
      obtain ⟨ko0, ko1, ko2⟩ := hxo.three
      have lo := hxo.lt
      have fr0 := hxr.free 0
      have fr1 := hxr.free 1
      have fr2 := hxr.free 2
      obtain ⟨sr0, sr1, sr2⟩ := (((hxr.set 0 (.int .i64 (fpx o))).set 1 (.int .i64 (fpy o))).set 2 (.int .i64 (fpz o))).three
      go_wp2_with fail
      rw [← hr.out]
      refine bodyPost_ret (v := .agg #[.int .i64 (fpx o), .int .i64 (fpy o), .int .i64 (fpz o)]) (by simp [results, Try.results64, go_sem, sr0, sr1, sr2]) (by rfl) ⟨by rfl, ?_⟩
      exact below_sets3 h (by omega) _ _ _
    · have hm1 : (0 : Int) < m := by omega
      clear h0
      have c2 := fun W => sum_any G x x W hx hx
      have hx2 := G.add_on hx hx
      generalize hy : fadd a p x x = y at c2 hx2
      replace c2 := Lib.hid c2
      by_cases hodd : m % 2 = 1
      · have e1 : ((m : Int) % 2 == 1) = true := by rw [beq_iff_eq]; omega
        have c1 := fun W => sum_any G o x W ho hx
        have ho2 := G.add_on ho hx
        have hi2 : Hid (FOn a b p (fadd a p o x) ∧ FOn a b p y ∧ fadd a p (fadd a p o x) (fmul a p (m / 2) y) = fmul a p N s) := ⟨ho2, hx2, by rw [← hy, G.odd_step ho hx hodd]; exact he⟩
        generalize fadd a p o x = o2 at c1 ho2 hi2
        replace c1 := Lib.hid c1
        clear ho2 hx2 he hodd hy ho hx hs
        obtain ⟨kf0, kf1, kf2⟩ := hxf.three
        have lf := hxf.lt
        obtain ⟨ks0, ks1, ks2⟩ := hxs.three
        have ls := hxs.lt
        obtain ⟨kr0, kr1, kr2⟩ := hxr.three
        have lr := hxr.lt
        obtain ⟨ko0, ko1, ko2⟩ := hxo.three
        have lo := hxo.lt
        go_wp2_with fail
        refine (c1.out _).mono ?_
        rintro e w1 ⟨rfl, hb⟩
        replace h := Below.step h hb
        replace hxf := hxf.kept hb
        replace hxs := hxs.kept hb
        replace hxr := hxr.kept hb
        replace hxo := hxo.kept hb
        clear hb kf0 kf1 kf2 lf ks0 ks1 ks2 ls kr0 kr1 kr2 lr ko0 ko1 ko2 lo
        obtain ⟨kf0, kf1, kf2⟩ := hxf.three
        have lf := hxf.lt
        obtain ⟨ks0, ks1, ks2⟩ := hxs.three
        have ls := hxs.lt
        obtain ⟨kr0, kr1, kr2⟩ := hxr.three
        have lr := hxr.lt
        obtain ⟨ko0, ko1, ko2⟩ := hxo.three
        have lo := hxo.lt
        have fo0 := hxo.free 0
        have fo1 := hxo.free 1
        have fo2 := hxo.free 2
        go_wp2_with fail
        clear kf0 kf1 kf2 lf ks0 ks1 ks2 ls kr0 kr1 kr2 lr ko0 ko1 ko2 lo fo0 fo1 fo2
        replace h := below_sets3 (g := (w.heap.size + 3)) h (by omega) (.int .i64 (fpx o2)) (.int .i64 (fpy o2)) (.int .i64 (fpz o2))
        replace hxf := hxf.off3 (show _ ≠ (w.heap.size + 3) by omega) (.int .i64 (fpx o2)) (.int .i64 (fpy o2)) (.int .i64 (fpz o2))
        replace hxs := hxs.off3 (show _ ≠ (w.heap.size + 3) by omega) (.int .i64 (fpx o2)) (.int .i64 (fpy o2)) (.int .i64 (fpz o2))
        replace hxr := hxr.off3 (show _ ≠ (w.heap.size + 3) by omega) (.int .i64 (fpx o2)) (.int .i64 (fpy o2)) (.int .i64 (fpz o2))
        replace hxo := hxo.set3 (.int .i64 (fpx o2)) (.int .i64 (fpy o2)) (.int .i64 (fpz o2))
        generalize (((w1.setCell ⟨(w.heap.size + 3), 0, none⟩ (.int .i64 (fpx o2))).setCell ⟨(w.heap.size + 3), 1, none⟩ (.int .i64 (fpy o2))).setCell ⟨(w.heap.size + 3), 2, none⟩ (.int .i64 (fpz o2))) = w2 at *
        obtain ⟨kf0, kf1, kf2⟩ := hxf.three
        have lf := hxf.lt
        obtain ⟨ks0, ks1, ks2⟩ := hxs.three
        have ls := hxs.lt
        obtain ⟨kr0, kr1, kr2⟩ := hxr.three
        have lr := hxr.lt
        obtain ⟨ko0, ko1, ko2⟩ := hxo.three
        have lo := hxo.lt
        go_wp2_with fail
        refine (c2.out _).mono ?_
        rintro e w3 ⟨rfl, hb⟩
        replace h := Below.step h hb
        replace hxf := hxf.kept hb
        replace hxs := hxs.kept hb
        replace hxr := hxr.kept hb
        replace hxo := hxo.kept hb
        clear hb kf0 kf1 kf2 lf ks0 ks1 ks2 ls kr0 kr1 kr2 lr ko0 ko1 ko2 lo
        obtain ⟨kf0, kf1, kf2⟩ := hxf.three
        have lf := hxf.lt
        obtain ⟨ks0, ks1, ks2⟩ := hxs.three
        have ls := hxs.lt
        obtain ⟨kr0, kr1, kr2⟩ := hxr.three
        have lr := hxr.lt
        obtain ⟨ko0, ko1, ko2⟩ := hxo.three
        have lo := hxo.lt
        have fs0 := hxs.free 0
        have fs1 := hxs.free 1
        have fs2 := hxs.free 2
        go_wp2_with fail
        clear kf0 kf1 kf2 lf ks0 ks1 ks2 ls kr0 kr1 kr2 lr ko0 ko1 ko2 lo fs0 fs1 fs2
        replace h := below_sets3 (g := (w.heap.size + 1)) h (by omega) (.int .i64 (fpx y)) (.int .i64 (fpy y)) (.int .i64 (fpz y))
        replace hxf := hxf.off3 (show _ ≠ (w.heap.size + 1) by omega) (.int .i64 (fpx y)) (.int .i64 (fpy y)) (.int .i64 (fpz y))
        replace hxo := hxo.off3 (show _ ≠ (w.heap.size + 1) by omega) (.int .i64 (fpx y)) (.int .i64 (fpy y)) (.int .i64 (fpz y))
        replace hxr := hxr.off3 (show _ ≠ (w.heap.size + 1) by omega) (.int .i64 (fpx y)) (.int .i64 (fpy y)) (.int .i64 (fpz y))
        replace hxs := hxs.set3 (.int .i64 (fpx y)) (.int .i64 (fpy y)) (.int .i64 (fpz y))
        generalize (((w3.setCell ⟨(w.heap.size + 1), 0, none⟩ (.int .i64 (fpx y))).setCell ⟨(w.heap.size + 1), 1, none⟩ (.int .i64 (fpy y))).setCell ⟨(w.heap.size + 1), 2, none⟩ (.int .i64 (fpz y))) = w4 at *
        obtain ⟨kf0, kf1, kf2⟩ := hxf.three
        have lf := hxf.lt
        obtain ⟨ks0, ks1, ks2⟩ := hxs.three
        have ls := hxs.lt
        obtain ⟨kr0, kr1, kr2⟩ := hxr.three
        have lr := hxr.lt
        obtain ⟨ko0, ko1, ko2⟩ := hxo.three
        have lo := hxo.lt
        clear kf0 kf1 kf2 lf ks0 ks1 ks2 ls kr0 kr1 kr2 lr ko0 ko1 ko2 lo
        go_wp2_with fail
        go_roundw
        case rel => exact ⟨m / 2, o2, y, by go_num, by omega, hi2, h, hxf, hxs, hxr, hxo⟩
        case measure => simp [intOf]; omega
      · have e1 : ((m : Int) % 2 == 1) = false := by rw [beq_eq_false_iff_ne]; omega
        have hi2 : Hid (FOn a b p o ∧ FOn a b p y ∧ fadd a p o (fmul a p (m / 2) y) = fmul a p N s) := ⟨ho, hx2, by rw [← hy, G.even hx (by omega)]; exact he⟩
        clear hx2 he hodd hy ho hx hs
        obtain ⟨kf0, kf1, kf2⟩ := hxf.three
        have lf := hxf.lt
        obtain ⟨ks0, ks1, ks2⟩ := hxs.three
        have ls := hxs.lt
        obtain ⟨kr0, kr1, kr2⟩ := hxr.three
        have lr := hxr.lt
        obtain ⟨ko0, ko1, ko2⟩ := hxo.three
        have lo := hxo.lt
        go_wp2_with fail
        refine (c2.out _).mono ?_
        rintro e w5 ⟨rfl, hb⟩
        replace h := Below.step h hb
        replace hxf := hxf.kept hb
        replace hxs := hxs.kept hb
        replace hxr := hxr.kept hb
        replace hxo := hxo.kept hb
        clear hb kf0 kf1 kf2 lf ks0 ks1 ks2 ls kr0 kr1 kr2 lr ko0 ko1 ko2 lo
        obtain ⟨kf0, kf1, kf2⟩ := hxf.three
        have lf := hxf.lt
        obtain ⟨ks0, ks1, ks2⟩ := hxs.three
        have ls := hxs.lt
        obtain ⟨kr0, kr1, kr2⟩ := hxr.three
        have lr := hxr.lt
        obtain ⟨ko0, ko1, ko2⟩ := hxo.three
        have lo := hxo.lt
        have fs0 := hxs.free 0
        have fs1 := hxs.free 1
        have fs2 := hxs.free 2
        go_wp2_with fail
        clear kf0 kf1 kf2 lf ks0 ks1 ks2 ls kr0 kr1 kr2 lr ko0 ko1 ko2 lo fs0 fs1 fs2
        replace h := below_sets3 (g := (w.heap.size + 1)) h (by omega) (.int .i64 (fpx y)) (.int .i64 (fpy y)) (.int .i64 (fpz y))
        replace hxf := hxf.off3 (show _ ≠ (w.heap.size + 1) by omega) (.int .i64 (fpx y)) (.int .i64 (fpy y)) (.int .i64 (fpz y))
        replace hxo := hxo.off3 (show _ ≠ (w.heap.size + 1) by omega) (.int .i64 (fpx y)) (.int .i64 (fpy y)) (.int .i64 (fpz y))
        replace hxr := hxr.off3 (show _ ≠ (w.heap.size + 1) by omega) (.int .i64 (fpx y)) (.int .i64 (fpy y)) (.int .i64 (fpz y))
        replace hxs := hxs.set3 (.int .i64 (fpx y)) (.int .i64 (fpy y)) (.int .i64 (fpz y))
        generalize (((w5.setCell ⟨(w.heap.size + 1), 0, none⟩ (.int .i64 (fpx y))).setCell ⟨(w.heap.size + 1), 1, none⟩ (.int .i64 (fpy y))).setCell ⟨(w.heap.size + 1), 2, none⟩ (.int .i64 (fpz y))) = w6 at *
        obtain ⟨kf0, kf1, kf2⟩ := hxf.three
        have lf := hxf.lt
        obtain ⟨ks0, ks1, ks2⟩ := hxs.three
        have ls := hxs.lt
        obtain ⟨kr0, kr1, kr2⟩ := hxr.three
        have lr := hxr.lt
        obtain ⟨ko0, ko1, ko2⟩ := hxo.three
        have lo := hxo.lt
        clear kf0 kf1 kf2 lf ks0 ks1 ks2 ls kr0 kr1 kr2 lr ko0 ko1 ko2 lo
        go_wp2_with fail
        go_roundw
        case rel => exact ⟨m / 2, o, y, by go_num, by omega, hi2, h, hxf, hxs, hxr, hxo⟩
        case measure => simp [intOf]; omega

end Go.Proofs.Ytbgoiflkpefckaa
