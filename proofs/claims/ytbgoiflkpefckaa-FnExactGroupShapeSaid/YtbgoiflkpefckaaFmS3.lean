/- The model's sums of points modulo a prime (written by wip/gen/fms3.py). -/
import Derived.Test.YtbgoiflkpefckaaFmS2
import Derived.Deep.RegionHeld3
import Derived.Deep.DeepCutAuto
import Derived.BigQuiet
import Derived.BigGuard
import Derived.StillTailTactics
namespace Go.Proofs.Ytbgoiflkpefckaa
open Go.RowKit Go.Joins

theorem sinv_any (z : Int) (p : Nat) (w : World) (hz : IsA z) (h2 : 2 ≤ p) (h9 : p ≤ 997) : Calls Try.prog 77 #[.int .i64 z, .int .i64 (p : Int)] w fun e w' => e = .returned (.int .i64 (ivn p z : Int)) ∧ w = w' :=
  mdInverse_any z p w hz h2 h9 (rs p z) (ivn p z) (rs_cast (by omega) z) rfl

set_option maxHeartbeats 1000000 in
set_option maxRecDepth 100000 in
theorem addS_left (a b : Int) (p : Nat) (S R : Option Addr) (cs n c : Nat) (xs : List Int) (w : World) (hn : n ≤ 4398046511104) (hr : Rd w w.heap.size R n xs) : Calls Try.prog 60 #[.agg #[.int .i64 a, .int .i64 b], .int .i64 (p : Int), .slice S 0 cs, .slice R n c] w (GivesOwn w xs) := by
  have c1 := fun W hW => l1Own_any R n c w.heap.size xs W hn (hr.below hW)
  replace c1 := Lib.hid c1
  clear hr
  have h := Below.refl w.heap.size w
  have hA := below_alloc1 w (.cells #[.int .i64 a, .int .i64 b] 26)
  have hx0 := Box.new w 26 #[.int .i64 a, .int .i64 b]
  replace h := Below.step h hA
  clear hA
  obtain ⟨k00, k01⟩ := hx0.two
  have l0 := hx0.lt
  go_enter Try.func60, Try.ntmps60
  go_wp2_with fail
  have hsz := h.size
  refine (c1.out _ h).mono ?_
  rintro e w1 ⟨A, c', rfl, ho, hb⟩
  replace h := Below.step h hb
  replace hx0 := hx0.kept hb
  clear hb k00 k01 l0
  obtain ⟨k00, k01⟩ := hx0.two
  have l0 := hx0.lt
  go_wp2_with fail
  go_ret
  exact ⟨A, c', rfl, ho.le hsz, h⟩


set_option maxHeartbeats 1000000 in
set_option maxRecDepth 100000 in
theorem addS_right (a b : Int) (p : Nat) (S R : Option Addr) (cs c : Nat) (xs : List Int) (w : World) (hr : Rd w w.heap.size R 2 xs) : Calls Try.prog 60 #[.agg #[.int .i64 a, .int .i64 b], .int .i64 (p : Int), .slice R 2 c, .slice S 0 cs] w (GivesOwn w xs) := by
  have c1 := fun W hW => l1Own_any R 2 c w.heap.size xs W (by omega) (hr.below hW)
  replace c1 := Lib.hid c1
  clear hr
  have h := Below.refl w.heap.size w
  have hA := below_alloc1 w (.cells #[.int .i64 a, .int .i64 b] 26)
  have hx0 := Box.new w 26 #[.int .i64 a, .int .i64 b]
  replace h := Below.step h hA
  clear hA
  obtain ⟨k00, k01⟩ := hx0.two
  have l0 := hx0.lt
  go_enter Try.func60, Try.ntmps60
  go_wp2_with fail
  have hsz := h.size
  refine (c1.out _ h).mono ?_
  rintro e w1 ⟨A, c', rfl, ho, hb⟩
  replace h := Below.step h hb
  replace hx0 := hx0.kept hb
  clear hb k00 k01 l0
  obtain ⟨k00, k01⟩ := hx0.two
  have l0 := hx0.lt
  go_wp2_with fail
  go_ret
  exact ⟨A, c', rfl, ho.le hsz, h⟩


set_option maxHeartbeats 1000000 in
set_option maxRecDepth 100000 in
theorem addS_opp (a b : Int) (p rb ro tb tq c d x y1 y2 : Nat) (w : World) (hrb : rb < w.heap.size) (htb : tb < w.heap.size) (r0 : w.cell? ⟨rb, ro, none⟩ = some (.int .i64 (x : Int))) (r1 : w.cell? ⟨rb, ro + 1, none⟩ = some (.int .i64 (y1 : Int))) (t0 : w.cell? ⟨tb, tq, none⟩ = some (.int .i64 (x : Int))) (t1 : w.cell? ⟨tb, tq + 1, none⟩ = some (.int .i64 (y2 : Int))) (hy : y1 ≠ y2) : Calls Try.prog 60 #[.agg #[.int .i64 a, .int .i64 b], .int .i64 (p : Int), .slice (some ⟨rb, ro, none⟩) 2 c, .slice (some ⟨tb, tq, none⟩) 2 d] w (GivesOwn w []) := by
  have e1 : ((y1 : Int) != y2) = true := by rw [bne_iff_ne]; omega
  clear hy
  have hrr : ∀ W, Below w.heap.size w W → W.cell? ⟨rb, ro, none⟩ = some (.int .i64 (x : Int)) ∧ W.cell? ⟨rb, ro + 1, none⟩ = some (.int .i64 (y1 : Int)) ∧ W.cell? ⟨tb, tq, none⟩ = some (.int .i64 (x : Int)) ∧ W.cell? ⟨tb, tq + 1, none⟩ = some (.int .i64 (y2 : Int)) := fun W hW => ⟨(hW.cell (p := ⟨rb, ro, none⟩) hrb).trans r0, (hW.cell (p := ⟨rb, ro + 1, none⟩) hrb).trans r1, (hW.cell (p := ⟨tb, tq, none⟩) htb).trans t0, (hW.cell (p := ⟨tb, tq + 1, none⟩) htb).trans t1⟩
  replace hrr := Lib.hid hrr
  clear r0 r1 t0 t1
  have h := Below.refl w.heap.size w
  have hA := below_alloc1 w (.cells #[.int .i64 a, .int .i64 b] 26)
  have hx0 := Box.new w 26 #[.int .i64 a, .int .i64 b]
  replace h := Below.step h hA
  clear hA
  obtain ⟨k00, k01⟩ := hx0.two
  have l0 := hx0.lt
  obtain ⟨r0, r1, t0, t1⟩ := hrr.out _ h
  go_enter Try.func60, Try.ntmps60
  go_wp2_with fail
  generalize (w.alloc (.cells #[.int .i64 a, .int .i64 b] 26)) = w1 at *
  refine wp_region_still_lit (by kernel_rfl) (by kernel_rfl) ?_
  repeat still_step
  refine wpStill_nil ?_
  have hb : Below w1.heap.size w1 w1.drew := ⟨rfl, rfl, rfl, Nat.le_refl _, fun _ _ => rfl⟩
  first | change Exit.then _ _ _ _ w1.drew | change Exit.inBlock _ _ _ _ w1.drew
  generalize w1.drew = w2 at *
  replace h := Below.step h hb
  replace hx0 := hx0.kept hb
  clear hb k00 k01 l0 r0 r1 t0 t1
  obtain ⟨k00, k01⟩ := hx0.two
  have l0 := hx0.lt
  obtain ⟨r0, r1, t0, t1⟩ := hrr.out _ h
  go_wp2_with fail
  refine wp_region_still_lit (by kernel_rfl) (by kernel_rfl) ?_
  repeat still_step
  refine wpStill_nil ?_
  have hb : Below w2.heap.size w2 w2.drew := ⟨rfl, rfl, rfl, Nat.le_refl _, fun _ _ => rfl⟩
  first | change Exit.then _ _ _ _ w2.drew | change Exit.inBlock _ _ _ _ w2.drew
  generalize w2.drew = w3 at *
  replace h := Below.step h hb
  replace hx0 := hx0.kept hb
  clear hb k00 k01 l0 r0 r1 t0 t1
  obtain ⟨k00, k01⟩ := hx0.two
  have l0 := hx0.lt
  obtain ⟨r0, r1, t0, t1⟩ := hrr.out _ h
  go_wp2_with fail
  go_ret
  exact ⟨none, 0, rfl, own_nil _ _, h⟩


set_option maxHeartbeats 1000000 in
set_option maxRecDepth 100000 in
theorem addS_zero (a b : Int) (p rb ro tb tq c d x y1 y2 : Nat) (w : World) (hrb : rb < w.heap.size) (htb : tb < w.heap.size) (r0 : w.cell? ⟨rb, ro, none⟩ = some (.int .i64 (x : Int))) (r1 : w.cell? ⟨rb, ro + 1, none⟩ = some (.int .i64 (y1 : Int))) (t0 : w.cell? ⟨tb, tq, none⟩ = some (.int .i64 (x : Int))) (t1 : w.cell? ⟨tb, tq + 1, none⟩ = some (.int .i64 (y2 : Int))) (hy : y1 = y2 ∧ y1 = 0) : Calls Try.prog 60 #[.agg #[.int .i64 a, .int .i64 b], .int .i64 (p : Int), .slice (some ⟨rb, ro, none⟩) 2 c, .slice (some ⟨tb, tq, none⟩) 2 d] w (GivesOwn w []) := by
  have e1 : ((y1 : Int) != y2) = false := by simp; omega
  have e2 : ((y1 : Int) == 0) = true := by simp; omega
  clear hy
  have hrr : ∀ W, Below w.heap.size w W → W.cell? ⟨rb, ro, none⟩ = some (.int .i64 (x : Int)) ∧ W.cell? ⟨rb, ro + 1, none⟩ = some (.int .i64 (y1 : Int)) ∧ W.cell? ⟨tb, tq, none⟩ = some (.int .i64 (x : Int)) ∧ W.cell? ⟨tb, tq + 1, none⟩ = some (.int .i64 (y2 : Int)) := fun W hW => ⟨(hW.cell (p := ⟨rb, ro, none⟩) hrb).trans r0, (hW.cell (p := ⟨rb, ro + 1, none⟩) hrb).trans r1, (hW.cell (p := ⟨tb, tq, none⟩) htb).trans t0, (hW.cell (p := ⟨tb, tq + 1, none⟩) htb).trans t1⟩
  replace hrr := Lib.hid hrr
  clear r0 r1 t0 t1
  have h := Below.refl w.heap.size w
  have hA := below_alloc1 w (.cells #[.int .i64 a, .int .i64 b] 26)
  have hx0 := Box.new w 26 #[.int .i64 a, .int .i64 b]
  replace h := Below.step h hA
  clear hA
  obtain ⟨k00, k01⟩ := hx0.two
  have l0 := hx0.lt
  obtain ⟨r0, r1, t0, t1⟩ := hrr.out _ h
  go_enter Try.func60, Try.ntmps60
  go_wp2_with fail
  generalize (w.alloc (.cells #[.int .i64 a, .int .i64 b] 26)) = w1 at *
  refine wp_region_still_lit (by kernel_rfl) (by kernel_rfl) ?_
  repeat still_step
  refine wpStill_nil ?_
  have hb : Below w1.heap.size w1 w1.drew := ⟨rfl, rfl, rfl, Nat.le_refl _, fun _ _ => rfl⟩
  first | change Exit.then _ _ _ _ w1.drew | change Exit.inBlock _ _ _ _ w1.drew
  generalize w1.drew = w2 at *
  replace h := Below.step h hb
  replace hx0 := hx0.kept hb
  clear hb k00 k01 l0 r0 r1 t0 t1
  obtain ⟨k00, k01⟩ := hx0.two
  have l0 := hx0.lt
  obtain ⟨r0, r1, t0, t1⟩ := hrr.out _ h
  go_wp2_with fail
  refine wp_region_still_lit (by kernel_rfl) (by kernel_rfl) ?_
  repeat still_step
  refine wpStill_nil ?_
  have hb : Below w2.heap.size w2 w2.drew := ⟨rfl, rfl, rfl, Nat.le_refl _, fun _ _ => rfl⟩
  first | change Exit.then _ _ _ _ w2.drew | change Exit.inBlock _ _ _ _ w2.drew
  generalize w2.drew = w3 at *
  replace h := Below.step h hb
  replace hx0 := hx0.kept hb
  clear hb k00 k01 l0 r0 r1 t0 t1
  obtain ⟨k00, k01⟩ := hx0.two
  have l0 := hx0.lt
  obtain ⟨r0, r1, t0, t1⟩ := hrr.out _ h
  go_wp2_with fail
  go_ret
  exact ⟨none, 0, rfl, own_nil _ _, h⟩


set_option maxHeartbeats 2000000 in
set_option maxRecDepth 100000 in
theorem addS_ne (a b : Int) (p rb ro tb tq c d x1 y1 x2 y2 L : Nat) (w : World) (h5 : 5 ≤ p) (h9 : p ≤ 997) (hrb : rb < w.heap.size) (htb : tb < w.heap.size) (r0 : w.cell? ⟨rb, ro, none⟩ = some (.int .i64 (x1 : Int))) (r1 : w.cell? ⟨rb, ro + 1, none⟩ = some (.int .i64 (y1 : Int))) (t0 : w.cell? ⟨tb, tq, none⟩ = some (.int .i64 (x2 : Int))) (t1 : w.cell? ⟨tb, tq + 1, none⟩ = some (.int .i64 (y2 : Int))) (hx1 : x1 < p) (hy1 : y1 < p) (hx2 : x2 < p) (hy2 : y2 < p) (hne : x1 ≠ x2) (hL : L = rs p (((y2 : Int) - y1) * ivn p ((x2 : Int) - x1))) : Calls Try.prog 60 #[.agg #[.int .i64 a, .int .i64 b], .int .i64 (p : Int), .slice (some ⟨rb, ro, none⟩) 2 c, .slice (some ⟨tb, tq, none⟩) 2 d] w (GivesOwn w [(fsx p L x1 x2 : Int), (fsy p L x1 y1 (fsx p L x1 x2) : Int)]) := by
  have c1 := fun W => sinv_any ((x2 : Int) - x1) p W ⟨by omega, by omega⟩ (by omega) h9
  obtain ⟨I, hI⟩ : ∃ I, I = ivn p ((x2 : Int) - x1) := ⟨_, rfl⟩
  have hIp : I < p := by rw [hI]; exact ivn_lt (by omega) _
  rw [← hI] at c1 hL
  obtain ⟨m1, m2⟩ := nmul' (show y2 ≤ 996 by omega) (show I ≤ 996 by omega) (M := 992016) rfl
  obtain ⟨n1, n2⟩ := nmul' (show y1 ≤ 996 by omega) (show I ≤ 996 by omega) (M := 992016) rfl
  have m3 : ((y2 : Int) - y1) * I = (y2 : Int) * I - (y1 : Int) * I := Int.sub_mul _ _ _
  have m5 : -992016 ≤ ((y2 : Int) - y1) * I ∧ ((y2 : Int) - y1) * I ≤ 992016 := by rw [m3]; omega
  clear m3 m1 m2 n1 n2
  have c2 := fun W => smod_any (((y2 : Int) - y1) * I) p W ⟨by omega, by omega⟩ (by omega) h9
  rw [← hL] at c2
  have ex : ((x1 : Int) != x2) = true := by rw [bne_iff_ne]; omega
  have hlp : L < p := by rw [hL]; exact rs_lt (by omega) _
  obtain ⟨k1, k2⟩ := nmul' (show L ≤ 996 by omega) (show L ≤ 996 by omega) (M := 992016) rfl
  have c3 := fun W => smod_any ((L : Int) * L - x1 - x2) p W ⟨by omega, by omega⟩ (by omega) h9
  obtain ⟨X, hX⟩ : ∃ X, X = fsx p L x1 x2 := ⟨_, rfl⟩
  have hXp : X < p := by rw [hX]; exact rs_lt (by omega) _
  rw [show rs p ((L : Int) * L - x1 - x2) = X from hX.symm] at c3
  rw [← hX]
  obtain ⟨n1, n2⟩ := nmul' (show L ≤ 996 by omega) (show x1 ≤ 996 by omega) (M := 992016) rfl
  obtain ⟨n3, n4⟩ := nmul' (show L ≤ 996 by omega) (show X ≤ 996 by omega) (M := 992016) rfl
  have m3 : (L : Int) * ((x1 : Int) - X) = (L : Int) * x1 - (L : Int) * X := Int.mul_sub _ _ _
  have m4 : -992016 ≤ (L : Int) * ((x1 : Int) - X) ∧ (L : Int) * ((x1 : Int) - X) ≤ 992016 := by rw [m3]; omega
  clear m3 n1 n2 n3 n4
  have c4 := fun W => smod_any ((L : Int) * ((x1 : Int) - X) - y1) p W ⟨by omega, by omega⟩ (by omega) h9
  obtain ⟨Y, hY⟩ : ∃ Y, Y = fsy p L x1 y1 X := ⟨_, rfl⟩
  rw [show rs p ((L : Int) * ((x1 : Int) - X) - y1) = Y from hY.symm] at c4
  rw [← hY]
  replace c1 := Lib.hid c1
  replace c2 := Lib.hid c2
  replace c3 := Lib.hid c3
  replace c4 := Lib.hid c4
  clear hL hX hY hI
  have ew0 : IntKind.i64.wrap ((x2 : Int) - x1) = (x2 : Int) - x1 := IntWalk.i64_in _ (by omega)
  have ew1 : IntKind.i64.wrap ((y2 : Int) - y1) = (y2 : Int) - y1 := IntWalk.i64_in _ (by omega)
  have ew2 : IntKind.i64.wrap (((y2 : Int) - y1) * I) = ((y2 : Int) - y1) * I := IntWalk.i64_in _ (by omega)
  have ew3 : IntKind.i64.wrap ((L : Int) * L) = (L : Int) * L := IntWalk.i64_in _ (by omega)
  have ew4 : IntKind.i64.wrap ((L : Int) * L - x1) = (L : Int) * L - x1 := IntWalk.i64_in _ (by omega)
  have ew5 : IntKind.i64.wrap ((L : Int) * L - x1 - x2) = (L : Int) * L - x1 - x2 := IntWalk.i64_in _ (by omega)
  have ew6 : IntKind.i64.wrap ((x1 : Int) - X) = (x1 : Int) - X := IntWalk.i64_in _ (by omega)
  have ew7 : IntKind.i64.wrap ((L : Int) * ((x1 : Int) - X)) = (L : Int) * ((x1 : Int) - X) := IntWalk.i64_in _ (by omega)
  have ew8 : IntKind.i64.wrap ((L : Int) * ((x1 : Int) - X) - y1) = (L : Int) * ((x1 : Int) - X) - y1 := IntWalk.i64_in _ (by omega)
  have hrr : ∀ W, Below w.heap.size w W → W.cell? ⟨rb, ro, none⟩ = some (.int .i64 (x1 : Int)) ∧ W.cell? ⟨rb, ro + 1, none⟩ = some (.int .i64 (y1 : Int)) ∧ W.cell? ⟨tb, tq, none⟩ = some (.int .i64 (x2 : Int)) ∧ W.cell? ⟨tb, tq + 1, none⟩ = some (.int .i64 (y2 : Int)) := fun W hW => ⟨(hW.cell (p := ⟨rb, ro, none⟩) hrb).trans r0, (hW.cell (p := ⟨rb, ro + 1, none⟩) hrb).trans r1, (hW.cell (p := ⟨tb, tq, none⟩) htb).trans t0, (hW.cell (p := ⟨tb, tq + 1, none⟩) htb).trans t1⟩
  replace hrr := Lib.hid hrr
  clear r0 r1 t0 t1
  have h := Below.refl w.heap.size w
  have hA := below_alloc1 w (.cells #[.int .i64 a, .int .i64 b] 26)
  have hx0 := Box.new w 26 #[.int .i64 a, .int .i64 b]
  replace h := Below.step h hA
  clear hA
  obtain ⟨k00, k01⟩ := hx0.two
  have l0 := hx0.lt
  obtain ⟨r0, r1, t0, t1⟩ := hrr.out _ h
  go_enter Try.func60, Try.ntmps60
  go_wp2_with fail
  generalize (w.alloc (.cells #[.int .i64 a, .int .i64 b] 26)) = w1 at *
  refine wp_region_still_lit (by kernel_rfl) (by kernel_rfl) ?_
  repeat still_step
  refine wpStill_nil ?_
  have hb : Below w1.heap.size w1 w1.drew := ⟨rfl, rfl, rfl, Nat.le_refl _, fun _ _ => rfl⟩
  first | change Exit.then _ _ _ _ w1.drew | change Exit.inBlock _ _ _ _ w1.drew
  generalize w1.drew = w2 at *
  replace h := Below.step h hb
  replace hx0 := hx0.kept hb
  clear hb k00 k01 l0 r0 r1 t0 t1
  obtain ⟨k00, k01⟩ := hx0.two
  have l0 := hx0.lt
  obtain ⟨r0, r1, t0, t1⟩ := hrr.out _ h
  go_wp2_with fail
  refine wp_region_still_lit (by kernel_rfl) (by kernel_rfl) ?_
  repeat still_step
  still_call (sleft (c1.out _))
  repeat still_step
  refine wpStill_nil ?_
  have hb : Below w2.heap.size w2 w2.drew := ⟨rfl, rfl, rfl, Nat.le_refl _, fun _ _ => rfl⟩
  first | change Exit.then _ _ _ _ w2.drew | change Exit.inBlock _ _ _ _ w2.drew
  generalize w2.drew = w3 at *
  replace h := Below.step h hb
  replace hx0 := hx0.kept hb
  clear hb k00 k01 l0 r0 r1 t0 t1
  obtain ⟨k00, k01⟩ := hx0.two
  have l0 := hx0.lt
  obtain ⟨r0, r1, t0, t1⟩ := hrr.out _ h
  go_wp2_with fail
  refine (c2.out _).mono ?_
  rintro e w4 ⟨rfl, rfl⟩
  go_wp2_with fail
  refine wp_region_still_lit (by kernel_rfl) (by kernel_rfl) ?_
  repeat still_step
  still_call (sleft (c3.out _))
  repeat still_step
  refine wpStill_nil ?_
  have hb : Below w3.heap.size w3 w3.drew := ⟨rfl, rfl, rfl, Nat.le_refl _, fun _ _ => rfl⟩
  first | change Exit.then _ _ _ _ w3.drew | change Exit.inBlock _ _ _ _ w3.drew
  generalize w3.drew = w5 at *
  replace h := Below.step h hb
  replace hx0 := hx0.kept hb
  clear hb k00 k01 l0 r0 r1 t0 t1
  obtain ⟨k00, k01⟩ := hx0.two
  have l0 := hx0.lt
  obtain ⟨r0, r1, t0, t1⟩ := hrr.out _ h
  go_wp2_with fail
  go_still_tail 14, (by kernel_rfl)
  still_call (sleft (c4.out _))
  repeat still_step
  refine wpStill_nil ?_
  have hb : Below w5.heap.size w5 w5.drew := ⟨rfl, rfl, rfl, Nat.le_refl _, fun _ _ => rfl⟩
  change wpList _ _ _ _ _ w5.drew
  generalize w5.drew = w6 at *
  replace h := Below.step h hb
  replace hx0 := hx0.kept hb
  clear hb k00 k01 l0 r0 r1 t0 t1
  obtain ⟨k00, k01⟩ := hx0.two
  have l0 := hx0.lt
  obtain ⟨r0, r1, t0, t1⟩ := hrr.out _ h
  go_wp2_with fail
  go_ret
  exact ⟨_, 2, rfl, own_pair w6 w.heap.size (X : Int) (Y : Int) h.size, Below.step h (below_alloc1 _ _)⟩


set_option maxHeartbeats 2000000 in
set_option maxRecDepth 100000 in
theorem addS_eq (a b : Int) (p rb ro tb tq c d x y L : Nat) (w : World) (h5 : 5 ≤ p) (h9 : p ≤ 997) (hrb : rb < w.heap.size) (htb : tb < w.heap.size) (r0 : w.cell? ⟨rb, ro, none⟩ = some (.int .i64 (x : Int))) (r1 : w.cell? ⟨rb, ro + 1, none⟩ = some (.int .i64 (y : Int))) (t0 : w.cell? ⟨tb, tq, none⟩ = some (.int .i64 (x : Int))) (t1 : w.cell? ⟨tb, tq + 1, none⟩ = some (.int .i64 (y : Int))) (ha : -1000 ≤ a ∧ a ≤ 1000) (hx : x < p) (hy : y < p) (hy0 : y ≠ 0) (hL : L = rs p ((3 * (x : Int) * x + a) * ivn p (2 * (y : Int)))) : Calls Try.prog 60 #[.agg #[.int .i64 a, .int .i64 b], .int .i64 (p : Int), .slice (some ⟨rb, ro, none⟩) 2 c, .slice (some ⟨tb, tq, none⟩) 2 d] w (GivesOwn w [(fsx p L x x : Int), (fsy p L x y (fsx p L x x) : Int)]) := by
  obtain ⟨a1, a2⟩ := ha
  have c1 := fun W => sinv_any (2 * (y : Int)) p W ⟨by omega, by omega⟩ (by omega) h9
  obtain ⟨I, hI⟩ : ∃ I, I = ivn p (2 * (y : Int)) := ⟨_, rfl⟩
  have hIp : I < p := by rw [hI]; exact ivn_lt (by omega) _
  rw [← hI] at c1 hL
  obtain ⟨m1, m2⟩ := nmul' (show 3 * x ≤ 2988 by omega) (show x ≤ 996 by omega) (M := 2976048) rfl
  rw [show ((3 * x : Nat) : Int) = 3 * (x : Int) from by omega] at m1 m2
  have m1' : (0 : Int) ≤ 3 * (x : Int) * x ∧ 3 * (x : Int) * x ≤ 2976048 := by have := m1; have := m2; omega
  clear m1 m2
  have m5 := fr_mul_bd (a := 3 * (x : Int) * x + a) (b := (I : Int)) (M := 2977048) (N := 996) (by omega) (by omega) (by omega) (by omega)
  have c2 := fun W => smod_any ((3 * (x : Int) * x + a) * I) p W ⟨by omega, by omega⟩ (by omega) h9
  rw [← hL] at c2
  have ey : ((y : Int) == 0) = false := beq_eq_false_iff_ne.2 (by omega)
  have hlp : L < p := by rw [hL]; exact rs_lt (by omega) _
  obtain ⟨k1, k2⟩ := nmul' (show L ≤ 996 by omega) (show L ≤ 996 by omega) (M := 992016) rfl
  have c3 := fun W => smod_any ((L : Int) * L - x - x) p W ⟨by omega, by omega⟩ (by omega) h9
  obtain ⟨X, hX⟩ : ∃ X, X = fsx p L x x := ⟨_, rfl⟩
  have hXp : X < p := by rw [hX]; exact rs_lt (by omega) _
  rw [show rs p ((L : Int) * L - x - x) = X from hX.symm] at c3
  rw [← hX]
  obtain ⟨n1, n2⟩ := nmul' (show L ≤ 996 by omega) (show x ≤ 996 by omega) (M := 992016) rfl
  obtain ⟨n3, n4⟩ := nmul' (show L ≤ 996 by omega) (show X ≤ 996 by omega) (M := 992016) rfl
  have m3 : (L : Int) * ((x : Int) - X) = (L : Int) * x - (L : Int) * X := Int.mul_sub _ _ _
  have m4 : -992016 ≤ (L : Int) * ((x : Int) - X) ∧ (L : Int) * ((x : Int) - X) ≤ 992016 := by rw [m3]; omega
  clear m3 n1 n2 n3 n4
  have c4 := fun W => smod_any ((L : Int) * ((x : Int) - X) - y) p W ⟨by omega, by omega⟩ (by omega) h9
  obtain ⟨Y, hY⟩ : ∃ Y, Y = fsy p L x y X := ⟨_, rfl⟩
  rw [show rs p ((L : Int) * ((x : Int) - X) - y) = Y from hY.symm] at c4
  rw [← hY]
  replace c1 := Lib.hid c1
  replace c2 := Lib.hid c2
  replace c3 := Lib.hid c3
  replace c4 := Lib.hid c4
  clear hL hX hY hI
  have ew0 : IntKind.i64.wrap (3 * (x : Int)) = 3 * (x : Int) := IntWalk.i64_in _ (by omega)
  have ew1 : IntKind.i64.wrap (3 * (x : Int) * x) = 3 * (x : Int) * x := IntWalk.i64_in _ (by omega)
  have ew2 : IntKind.i64.wrap (3 * (x : Int) * x + a) = 3 * (x : Int) * x + a := IntWalk.i64_in _ (by omega)
  have ew3 : IntKind.i64.wrap (2 * (y : Int)) = 2 * (y : Int) := IntWalk.i64_in _ (by omega)
  have ew4 : IntKind.i64.wrap ((3 * (x : Int) * x + a) * I) = (3 * (x : Int) * x + a) * I := IntWalk.i64_in _ (by omega)
  have ew5 : IntKind.i64.wrap ((L : Int) * L) = (L : Int) * L := IntWalk.i64_in _ (by omega)
  have ew6 : IntKind.i64.wrap ((L : Int) * L - x) = (L : Int) * L - x := IntWalk.i64_in _ (by omega)
  have ew7 : IntKind.i64.wrap ((L : Int) * L - x - x) = (L : Int) * L - x - x := IntWalk.i64_in _ (by omega)
  have ew8 : IntKind.i64.wrap ((x : Int) - X) = (x : Int) - X := IntWalk.i64_in _ (by omega)
  have ew9 : IntKind.i64.wrap ((L : Int) * ((x : Int) - X)) = (L : Int) * ((x : Int) - X) := IntWalk.i64_in _ (by omega)
  have ew10 : IntKind.i64.wrap ((L : Int) * ((x : Int) - X) - y) = (L : Int) * ((x : Int) - X) - y := IntWalk.i64_in _ (by omega)
  have hrr : ∀ W, Below w.heap.size w W → W.cell? ⟨rb, ro, none⟩ = some (.int .i64 (x : Int)) ∧ W.cell? ⟨rb, ro + 1, none⟩ = some (.int .i64 (y : Int)) ∧ W.cell? ⟨tb, tq, none⟩ = some (.int .i64 (x : Int)) ∧ W.cell? ⟨tb, tq + 1, none⟩ = some (.int .i64 (y : Int)) := fun W hW => ⟨(hW.cell (p := ⟨rb, ro, none⟩) hrb).trans r0, (hW.cell (p := ⟨rb, ro + 1, none⟩) hrb).trans r1, (hW.cell (p := ⟨tb, tq, none⟩) htb).trans t0, (hW.cell (p := ⟨tb, tq + 1, none⟩) htb).trans t1⟩
  replace hrr := Lib.hid hrr
  clear r0 r1 t0 t1
  have h := Below.refl w.heap.size w
  have hA := below_alloc1 w (.cells #[.int .i64 a, .int .i64 b] 26)
  have hx0 := Box.new w 26 #[.int .i64 a, .int .i64 b]
  replace h := Below.step h hA
  clear hA
  obtain ⟨k00, k01⟩ := hx0.two
  have l0 := hx0.lt
  obtain ⟨r0, r1, t0, t1⟩ := hrr.out _ h
  go_enter Try.func60, Try.ntmps60
  go_wp2_with fail
  generalize (w.alloc (.cells #[.int .i64 a, .int .i64 b] 26)) = w1 at *
  refine wp_region_still_lit (by kernel_rfl) (by kernel_rfl) ?_
  repeat still_step
  refine wpStill_nil ?_
  have hb : Below w1.heap.size w1 w1.drew := ⟨rfl, rfl, rfl, Nat.le_refl _, fun _ _ => rfl⟩
  first | change Exit.then _ _ _ _ w1.drew | change Exit.inBlock _ _ _ _ w1.drew
  generalize w1.drew = w2 at *
  replace h := Below.step h hb
  replace hx0 := hx0.kept hb
  clear hb k00 k01 l0 r0 r1 t0 t1
  obtain ⟨k00, k01⟩ := hx0.two
  have l0 := hx0.lt
  obtain ⟨r0, r1, t0, t1⟩ := hrr.out _ h
  go_wp2_with fail
  refine wp_region_still_lit (by kernel_rfl) (by kernel_rfl) ?_
  repeat still_step
  refine wpStill_nil ?_
  have hb : Below w2.heap.size w2 w2.drew := ⟨rfl, rfl, rfl, Nat.le_refl _, fun _ _ => rfl⟩
  first | change Exit.then _ _ _ _ w2.drew | change Exit.inBlock _ _ _ _ w2.drew
  generalize w2.drew = w3 at *
  replace h := Below.step h hb
  replace hx0 := hx0.kept hb
  clear hb k00 k01 l0 r0 r1 t0 t1
  obtain ⟨k00, k01⟩ := hx0.two
  have l0 := hx0.lt
  obtain ⟨r0, r1, t0, t1⟩ := hrr.out _ h
  go_wp2_with fail
  refine wp_region_still_lit (by kernel_rfl) (by kernel_rfl) ?_
  repeat still_step
  still_call (sleft (c1.out _))
  repeat still_step
  refine wpStill_nil ?_
  have hb : Below w3.heap.size w3 w3.drew := ⟨rfl, rfl, rfl, Nat.le_refl _, fun _ _ => rfl⟩
  first | change Exit.then _ _ _ _ w3.drew | change Exit.inBlock _ _ _ _ w3.drew
  generalize w3.drew = w4 at *
  replace h := Below.step h hb
  replace hx0 := hx0.kept hb
  clear hb k00 k01 l0 r0 r1 t0 t1
  obtain ⟨k00, k01⟩ := hx0.two
  have l0 := hx0.lt
  obtain ⟨r0, r1, t0, t1⟩ := hrr.out _ h
  go_wp2_with fail
  refine (c2.out _).mono ?_
  rintro e w5 ⟨rfl, rfl⟩
  go_wp2_with fail
  refine wp_region_still_lit (by kernel_rfl) (by kernel_rfl) ?_
  repeat still_step
  still_call (sleft (c3.out _))
  repeat still_step
  refine wpStill_nil ?_
  have hb : Below w4.heap.size w4 w4.drew := ⟨rfl, rfl, rfl, Nat.le_refl _, fun _ _ => rfl⟩
  first | change Exit.then _ _ _ _ w4.drew | change Exit.inBlock _ _ _ _ w4.drew
  generalize w4.drew = w6 at *
  replace h := Below.step h hb
  replace hx0 := hx0.kept hb
  clear hb k00 k01 l0 r0 r1 t0 t1
  obtain ⟨k00, k01⟩ := hx0.two
  have l0 := hx0.lt
  obtain ⟨r0, r1, t0, t1⟩ := hrr.out _ h
  go_wp2_with fail
  go_still_tail 14, (by kernel_rfl)
  still_call (sleft (c4.out _))
  repeat still_step
  refine wpStill_nil ?_
  have hb : Below w6.heap.size w6 w6.drew := ⟨rfl, rfl, rfl, Nat.le_refl _, fun _ _ => rfl⟩
  change wpList _ _ _ _ _ w6.drew
  generalize w6.drew = w7 at *
  replace h := Below.step h hb
  replace hx0 := hx0.kept hb
  clear hb k00 k01 l0 r0 r1 t0 t1
  obtain ⟨k00, k01⟩ := hx0.two
  have l0 := hx0.lt
  obtain ⟨r0, r1, t0, t1⟩ := hrr.out _ h
  go_wp2_with fail
  go_ret
  exact ⟨_, 2, rfl, own_pair w7 w.heap.size (X : Int) (Y : Int) h.size, Below.step h (below_alloc1 _ _)⟩


theorem addS_any {a b : Int} {p : Nat} (G : FG a b p) (s t : FP) (hs : FOn a b p s) (ht : FOn a b p t) (A B : Option Addr) (n m c d : Nat) (w : World) (h1 : Rd w w.heap.size A n (fl s)) (h2 : Rd w w.heap.size B m (fl t)) :
    Calls Try.prog 60 #[.agg #[.int .i64 a, .int .i64 b], .int .i64 (p : Int), .slice A n c, .slice B m d] w (GivesOwn w (fl (fadd a p s t))) := by
  have h5 := G.five
  have h9 := G.le
  rcases s with _ | ⟨x1, y1⟩
  · obtain rfl : 0 = n := h1.1
    exact addS_left a b p A B c m d (fl t) w (by have := h2.1; rcases t with _ | ⟨u, v⟩ <;> simp [fl] at this <;> omega) h2
  rcases t with _ | ⟨x2, y2⟩
  · obtain rfl : 0 = m := h2.1
    obtain rfl : 2 = n := h1.1
    exact addS_right a b p B A d c _ w h1
  obtain ⟨rfl, rb, ro, rfl, hrb, r0, r1⟩ := h1.two
  obtain ⟨rfl, tb, tq, rfl, htb, t0, t1⟩ := h2.two
  by_cases ho : x1 = x2 ∧ (y1 ≠ y2 ∨ y1 = 0)
  · rw [fadd_opp ho]
    obtain ⟨rfl, hy⟩ := ho
    by_cases e : y1 = y2
    · exact addS_zero a b p rb ro tb tq c d x1 y1 y2 w hrb htb r0 r1 t0 t1 ⟨e, by rcases hy with hy | hy; exact absurd e hy; exact hy⟩
    · exact addS_opp a b p rb ro tb tq c d x1 y1 y2 w hrb htb r0 r1 t0 t1 e
  · rw [fadd_gen ho]
    by_cases hx : x1 = x2
    · subst hx
      have hy : y1 = y2 := by
        by_cases e : y1 = y2
        · exact e
        · exact absurd ⟨rfl, .inl e⟩ ho
      subst hy
      have h0 : y1 ≠ 0 := fun e => ho ⟨rfl, .inr e⟩
      exact addS_eq a b p rb ro tb tq c d x1 y1 _ w h5 h9 hrb htb r0 r1 t0 t1 G.g.1 hs.1 hs.2.1 h0 (by unfold fslope; rw [if_pos rfl])
    · exact addS_ne a b p rb ro tb tq c d x1 y1 x2 y2 _ w h5 h9 hrb htb r0 r1 t0 t1 hs.1 hs.2.1 ht.1 ht.2.1 hx (by unfold fslope; rw [if_neg hx])
end Go.Proofs.Ytbgoiflkpefckaa
