/- The program's points modulo a prime (written by wip/gen/fmi7.py). -/
import Derived.Test.YtbgoiflkpefckaaFmI6
import Derived.Test.YtbgoiflkpefckaaFmS4
import Derived.Deep.RegionHeld3
import Derived.Deep.DeepCutAuto
import Derived.StillTailTactics
import Derived.BigRegion
namespace Go.Proofs.Ytbgoiflkpefckaa
open Go.RowKit Go.Joins

def GivesFP (w : World) (u v q : Int) (s : FP) (ok : Bool) (e : Ending) (w' : World) : Prop :=
  e = .returned (.tuple #[.agg #[.int .i64 u, .int .i64 v, .int .i64 q], .agg #[.int .i64 (fpx s), .int .i64 (fpy s), .int .i64 (fpz s)], .bool ok]) ∧ Below w.heap.size w w'
theorem Box.drewd {w : World} {g : Nat} {t : TypeId} {cs : Array Value} (h : Box w g t cs) : Box w.drew g t cs := h
def GivesRowOk (w : World) (xs : List Int) (ok : Bool) (e : Ending) (w' : World) : Prop :=
  ∃ A c, e = .returned (.tuple #[.slice A xs.length c, .bool ok]) ∧ Own w' w.heap.size (.slice A xs.length c) xs ∧ Below w.heap.size w w'

set_option maxHeartbeats 1000000 in
set_option maxRecDepth 100000 in
theorem pmI_no (a b q : Int) (R : Option Addr) (n c : Nat) (w : World) (g : ¬ Gd a b q 199) : Calls Try.prog 58 #[.agg #[.int .i64 a, .int .i64 b], .int .i64 q, .slice R n c] w (GivesFP w 0 0 0 none false) := by
  have c1 := fun W => curveMod_no a b q 199 W g
  rw [show ((199 : Nat) : Int) = 199 from rfl] at c1
  replace c1 := Lib.hid c1
  clear g
  have h := Below.refl w.heap.size w
  have hA := below_alloc1 w (.cells #[.int .i64 a, .int .i64 b] 26)
  have hx0 := Box.new w 26 #[.int .i64 a, .int .i64 b]
  replace h := Below.step h hA
  clear hA
  have hA := below_alloc1 (w.alloc (.cells #[.int .i64 a, .int .i64 b] 26)) (.cells #[.int .i64 0, .int .i64 0, .int .i64 0] 62)
  have hxu := Box.new (w.alloc (.cells #[.int .i64 a, .int .i64 b] 26)) 62 #[.int .i64 0, .int .i64 0, .int .i64 0]
  rw [show (w.alloc (.cells #[.int .i64 a, .int .i64 b] 26)).heap.size = w.heap.size + 1 from by simp] at hxu
  replace h := Below.step h hA
  replace hx0 := hx0.kept hA
  clear hA
  have hA := below_alloc1 ((w.alloc (.cells #[.int .i64 a, .int .i64 b] 26)).alloc (.cells #[.int .i64 0, .int .i64 0, .int .i64 0] 62)) (.cells #[.int .i64 0, .int .i64 0, .int .i64 0] 70)
  have hxv := Box.new ((w.alloc (.cells #[.int .i64 a, .int .i64 b] 26)).alloc (.cells #[.int .i64 0, .int .i64 0, .int .i64 0] 62)) 70 #[.int .i64 0, .int .i64 0, .int .i64 0]
  rw [show ((w.alloc (.cells #[.int .i64 a, .int .i64 b] 26)).alloc (.cells #[.int .i64 0, .int .i64 0, .int .i64 0] 62)).heap.size = w.heap.size + 2 from by simp] at hxv
  replace h := Below.step h hA
  replace hx0 := hx0.kept hA
  replace hxu := hxu.kept hA
  clear hA
  obtain ⟨k00, k01⟩ := hx0.two
  have l0 := hx0.lt
  obtain ⟨ku0, ku1, ku2⟩ := hxu.three
  have lu := hxu.lt
  obtain ⟨kv0, kv1, kv2⟩ := hxv.three
  have lv := hxv.lt
  go_enter Try.func58, Try.ntmps58
  go_wp2_with fail
  refine (c1.out _).mono ?_
  rintro e w1 ⟨rfl, hb⟩
  replace h := Below.step h hb
  replace hx0 := hx0.kept hb
  replace hxu := hxu.kept hb
  replace hxv := hxv.kept hb
  clear hb k00 k01 l0 ku0 ku1 ku2 lu kv0 kv1 kv2 lv
  obtain ⟨k00, k01⟩ := hx0.two
  have l0 := hx0.lt
  obtain ⟨ku0, ku1, ku2⟩ := hxu.three
  have lu := hxu.lt
  obtain ⟨kv0, kv1, kv2⟩ := hxv.three
  have lv := hxv.lt
  have fu0 := hxu.free 0
  have fu1 := hxu.free 1
  have fu2 := hxu.free 2
  have fv0 := hxv.free 0
  have fv1 := hxv.free 1
  have fv2 := hxv.free 2
  have hxu2 := (hxu.set3 (.int .i64 0) (.int .i64 0) (.int .i64 0)).off3 (show w.heap.size + 1 ≠ w.heap.size + 2 by omega) (.int .i64 0) (.int .i64 0) (.int .i64 0)
  have hxv2 := (hxv.off3 (show w.heap.size + 2 ≠ w.heap.size + 1 by omega) (.int .i64 0) (.int .i64 0) (.int .i64 0)).set3 (.int .i64 0) (.int .i64 0) (.int .i64 0)
  obtain ⟨u0, u1, u2⟩ := ((hxu2).kept (below_alloc1 _ (.cells #[.int .i64 0, .int .i64 0, .int .i64 0] 62))).three
  obtain ⟨v0, v1, v2⟩ := ((hxv2).kept (below_alloc1 _ (.cells #[.int .i64 0, .int .i64 0, .int .i64 0] 62))).three
  go_wp2_with fail
  refine bodyPost_ret (v := .tuple #[.agg #[.int .i64 0, .int .i64 0, .int .i64 0], .agg #[.int .i64 0, .int .i64 0, .int .i64 0], .bool false]) (by simp [results, Try.results58, go_sem, u0, u1, u2, v0, v1, v2]) (by rfl) ⟨by rfl, ?_⟩
  exact Below.step (below_sets3 (below_sets3 h (show w.heap.size ≤ w.heap.size + 1 by omega) _ _ _) (show w.heap.size ≤ w.heap.size + 2 by omega) _ _ _) (below_alloc1 _ _)


set_option maxHeartbeats 1000000 in
set_option maxRecDepth 100000 in
theorem pmI_c {a b : Int} {p : Nat} (G : FG a b p) (hp : p ≤ 199) (R : Option Addr) (n c : Nat) (xs : List Int) (w : World) (hr : Rd w w.heap.size R n xs) (s : FP) (ok : Bool) (key : ∀ W : World, Rd W W.heap.size R n xs → Calls Try.prog 55 #[.agg #[.int .i64 (rs p a : Int), .int .i64 (rs p b : Int), .int .i64 (p : Int)], .slice R n c] W (GivesPB W (fpx s) (fpy s) (fpz s) ok)) : Calls Try.prog 58 #[.agg #[.int .i64 a, .int .i64 b], .int .i64 (p : Int), .slice R n c] w (GivesFP w (rs p a) (rs p b) p s ok) := by
  have c1 := fun W => curveMod_yes a b p 199 W G hp
  rw [show ((199 : Nat) : Int) = 199 from rfl] at c1
  have hrd : ∀ W, Below w.heap.size w W → Rd W W.heap.size R n xs := fun W hW => (hr.below hW).more hW.size
  have c2 := fun W hW => key W (hrd W hW)
  replace c1 := Lib.hid c1
  replace c2 := Lib.hid c2
  clear hr hrd key G
  have h := Below.refl w.heap.size w
  have hA := below_alloc1 w (.cells #[.int .i64 a, .int .i64 b] 26)
  have hx0 := Box.new w 26 #[.int .i64 a, .int .i64 b]
  replace h := Below.step h hA
  clear hA
  have hA := below_alloc1 (w.alloc (.cells #[.int .i64 a, .int .i64 b] 26)) (.cells #[.int .i64 0, .int .i64 0, .int .i64 0] 62)
  have hxu := Box.new (w.alloc (.cells #[.int .i64 a, .int .i64 b] 26)) 62 #[.int .i64 0, .int .i64 0, .int .i64 0]
  rw [show (w.alloc (.cells #[.int .i64 a, .int .i64 b] 26)).heap.size = w.heap.size + 1 from by simp] at hxu
  replace h := Below.step h hA
  replace hx0 := hx0.kept hA
  clear hA
  have hA := below_alloc1 ((w.alloc (.cells #[.int .i64 a, .int .i64 b] 26)).alloc (.cells #[.int .i64 0, .int .i64 0, .int .i64 0] 62)) (.cells #[.int .i64 0, .int .i64 0, .int .i64 0] 70)
  have hxv := Box.new ((w.alloc (.cells #[.int .i64 a, .int .i64 b] 26)).alloc (.cells #[.int .i64 0, .int .i64 0, .int .i64 0] 62)) 70 #[.int .i64 0, .int .i64 0, .int .i64 0]
  rw [show ((w.alloc (.cells #[.int .i64 a, .int .i64 b] 26)).alloc (.cells #[.int .i64 0, .int .i64 0, .int .i64 0] 62)).heap.size = w.heap.size + 2 from by simp] at hxv
  replace h := Below.step h hA
  replace hx0 := hx0.kept hA
  replace hxu := hxu.kept hA
  clear hA
  obtain ⟨k00, k01⟩ := hx0.two
  have l0 := hx0.lt
  obtain ⟨ku0, ku1, ku2⟩ := hxu.three
  have lu := hxu.lt
  obtain ⟨kv0, kv1, kv2⟩ := hxv.three
  have lv := hxv.lt
  go_enter Try.func58, Try.ntmps58
  go_wp2_with fail
  refine (c1.out _).mono ?_
  rintro e w1 ⟨rfl, hb⟩
  replace h := Below.step h hb
  replace hx0 := hx0.kept hb
  replace hxu := hxu.kept hb
  replace hxv := hxv.kept hb
  clear hb k00 k01 l0 ku0 ku1 ku2 lu kv0 kv1 kv2 lv
  obtain ⟨k00, k01⟩ := hx0.two
  have l0 := hx0.lt
  obtain ⟨ku0, ku1, ku2⟩ := hxu.three
  have lu := hxu.lt
  obtain ⟨kv0, kv1, kv2⟩ := hxv.three
  have lv := hxv.lt
  go_wp2_with fail
  have hA := below_alloc1 w1 (.cells #[.int .i64 (rs p a : Int), .int .i64 (rs p b : Int), .int .i64 (p : Int)] 62)
  have hxg := Box.new w1 62 #[.int .i64 (rs p a : Int), .int .i64 (rs p b : Int), .int .i64 (p : Int)]
  have zg : w.heap.size + 2 < w1.heap.size := hxv.lt
  replace h := Below.step h hA
  replace hx0 := hx0.kept hA
  replace hxu := hxu.kept hA
  replace hxv := hxv.kept hA
  clear hA k00 k01 l0 ku0 ku1 ku2 lu kv0 kv1 kv2 lv
  generalize w1.alloc (.cells #[.int .i64 (rs p a : Int), .int .i64 (rs p b : Int), .int .i64 (p : Int)] 62) = w2 at *
  generalize w1.heap.size = gg at hxg zg ⊢
  obtain ⟨k00, k01⟩ := hx0.two
  have l0 := hx0.lt
  obtain ⟨ku0, ku1, ku2⟩ := hxu.three
  have lu := hxu.lt
  obtain ⟨kv0, kv1, kv2⟩ := hxv.three
  have lv := hxv.lt
  obtain ⟨kg0, kg1, kg2⟩ := hxg.three
  have lg := hxg.lt
  refine (c2.out _ h).mono ?_
  rintro e w3 ⟨rfl, hb⟩
  replace h := Below.step h hb
  replace hx0 := hx0.kept hb
  replace hxu := hxu.kept hb
  replace hxv := hxv.kept hb
  replace hxg := hxg.kept hb
  clear hb k00 k01 l0 ku0 ku1 ku2 lu kv0 kv1 kv2 lv kg0 kg1 kg2 lg
  obtain ⟨k00, k01⟩ := hx0.two
  have l0 := hx0.lt
  obtain ⟨ku0, ku1, ku2⟩ := hxu.three
  have lu := hxu.lt
  obtain ⟨kv0, kv1, kv2⟩ := hxv.three
  have lv := hxv.lt
  obtain ⟨kg0, kg1, kg2⟩ := hxg.three
  have lg := hxg.lt
  go_wp2_with fail
  have hA := below_alloc1 w3 (.cells #[.int .i64 (fpx s), .int .i64 (fpy s), .int .i64 (fpz s)] 70)
  have hxq := Box.new w3 70 #[.int .i64 (fpx s), .int .i64 (fpy s), .int .i64 (fpz s)]
  have zq : w.heap.size + 2 < w3.heap.size := hxv.lt
  replace h := Below.step h hA
  replace hx0 := hx0.kept hA
  replace hxu := hxu.kept hA
  replace hxv := hxv.kept hA
  replace hxg := hxg.kept hA
  clear hA k00 k01 l0 ku0 ku1 ku2 lu kv0 kv1 kv2 lv kg0 kg1 kg2 lg
  generalize w3.alloc (.cells #[.int .i64 (fpx s), .int .i64 (fpy s), .int .i64 (fpz s)] 70) = w4 at *
  generalize w3.heap.size = gq at hxq zq ⊢
  obtain ⟨k00, k01⟩ := hx0.two
  have l0 := hx0.lt
  obtain ⟨ku0, ku1, ku2⟩ := hxu.three
  have lu := hxu.lt
  obtain ⟨kv0, kv1, kv2⟩ := hxv.three
  have lv := hxv.lt
  obtain ⟨kg0, kg1, kg2⟩ := hxg.three
  have lg := hxg.lt
  obtain ⟨kq0, kq1, kq2⟩ := hxq.three
  have lq := hxq.lt
  have fu0 := hxu.free 0
  have fu1 := hxu.free 1
  have fu2 := hxu.free 2
  have fv0 := hxv.free 0
  have fv1 := hxv.free 1
  have fv2 := hxv.free 2
  have nq1 : gq ≠ w.heap.size + 1 := by omega
  have nq2 : gq ≠ w.heap.size + 1 + 1 := by omega
  have ng1 : gg ≠ w.heap.size + 1 := by omega
  have ng2 : gg ≠ w.heap.size + 1 + 1 := by omega
  have hd0 : Below w4.heap.size w4 w4.drew := ⟨rfl, rfl, rfl, Nat.le_refl _, fun _ _ => rfl⟩
  have Dg := hxg.kept hd0
  obtain ⟨dg0, dg1, dg2⟩ := Dg.three
  have fdg0 := Dg.free 0
  have fdg1 := Dg.free 1
  have fdg2 := Dg.free 2
  have Dq := hxq.kept hd0
  obtain ⟨dq0, dq1, dq2⟩ := Dq.three
  have fdq0 := Dq.free 0
  have fdq1 := Dq.free 1
  have fdq2 := Dq.free 2
  have Du := hxu.kept hd0
  obtain ⟨du0, du1, du2⟩ := Du.three
  have fdu0 := Du.free 0
  have fdu1 := Du.free 1
  have fdu2 := Du.free 2
  have Dv := hxv.kept hd0
  obtain ⟨dv0, dv1, dv2⟩ := Dv.three
  have fdv0 := Dv.free 0
  have fdv1 := Dv.free 1
  have fdv2 := Dv.free 2
  have hxu2 := (hxu.set3 (.int .i64 (rs p a : Int)) (.int .i64 (rs p b : Int)) (.int .i64 (p : Int))).off3 (show w.heap.size + 1 ≠ w.heap.size + 1 + 1 by omega) (.int .i64 (fpx s)) (.int .i64 (fpy s)) (.int .i64 (fpz s))
  have hxv2 := (hxv.off3 (show w.heap.size + 2 ≠ w.heap.size + 1 by omega) (.int .i64 (rs p a : Int)) (.int .i64 (rs p b : Int)) (.int .i64 (p : Int))).set3 (.int .i64 (fpx s)) (.int .i64 (fpy s)) (.int .i64 (fpz s))
  replace hxu2 := Box.drewd hxu2
  replace hxv2 := Box.drewd hxv2
  obtain ⟨u0, u1, u2⟩ := hxu2.three
  obtain ⟨v0, v1, v2⟩ := hxv2.three
  go_region
  all_goals (go_wp2_with fail)
  all_goals (refine bodyPost_ret (v := .tuple #[.agg #[.int .i64 (rs p a : Int), .int .i64 (rs p b : Int), .int .i64 (p : Int)], .agg #[.int .i64 (fpx s), .int .i64 (fpy s), .int .i64 (fpz s)], .bool ok]) (by simp [results, Try.results58, go_sem, u0, u1, u2, v0, v1, v2]) (by rfl) ⟨by rfl, ?_⟩)
  all_goals exact Below.drewN' (below_sets3 (below_sets3 h (show w.heap.size ≤ w.heap.size + 1 by omega) _ _ _) (show w.heap.size ≤ w.heap.size + 1 + 1 by omega) _ _ _) 1


theorem pmI_yes {a b : Int} {p : Nat} (G : FG a b p) (hp : p ≤ 199) (R : Option Addr) (n c : Nat) (w : World) (s : FP) (hs : FOn a b p s) (hr : Rd w w.heap.size R n (fl s)) : Calls Try.prog 58 #[.agg #[.int .i64 a, .int .i64 b], .int .i64 (p : Int), .slice R n c] w (GivesFP w (rs p a) (rs p b) p s true) :=
  pmI_c G hp R n c (fl s) w hr s true fun W h => (pof_any G R n c (fl s) W h).1 s rfl hs
theorem pmI_off {a b : Int} {p : Nat} (G : FG a b p) (hp : p ≤ 199) (R : Option Addr) (n c : Nat) (xs : List Int) (w : World) (hno : ¬ OnL a b p xs) (hr : Rd w w.heap.size R n xs) : Calls Try.prog 58 #[.agg #[.int .i64 a, .int .i64 b], .int .i64 (p : Int), .slice R n c] w (GivesFP w (rs p a) (rs p b) p none false) :=
  pmI_c G hp R n c xs w hr none false fun W h => (pof_any G R n c xs W h).2 hno
end Go.Proofs.Ytbgoiflkpefckaa
