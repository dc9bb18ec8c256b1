/- The program's exported functions over points modulo a prime (written by wip/gen/fmy.py). -/
import Derived.Test.YtbgoiflkpefckaaFmI7
import Derived.Deep.RegionHeld3
import Derived.Deep.DeepCutAuto
import Derived.StillTailTactics
namespace Go.Proofs.Ytbgoiflkpefckaa
open Go.RowKit Go.Joins

set_option maxHeartbeats 1000000 in
set_option maxRecDepth 100000 in
theorem oppI_no (a b q : Int) (R : Option Addr) (n c : Nat) (w : World) (g : ¬ Gd a b q 199) : Calls Try.prog 28 #[.agg #[.int .i64 a, .int .i64 b], .int .i64 q, .slice R n c] w (GivesRowOk w [] false) := by
  have c1 := fun W => pmI_no a b q R n c W g
  replace c1 := Lib.hid c1
  clear g
  have h := Below.refl w.heap.size w
  have hA := below_alloc1 w (.cells #[.int .i64 a, .int .i64 b] 26)
  have hx0 := Box.new w 26 #[.int .i64 a, .int .i64 b]
  replace h := Below.step h hA
  clear hA
  obtain ⟨k00, k01⟩ := hx0.two
  have l0 := hx0.lt
  go_enter Try.func28, Try.ntmps28
  go_wp2_with fail
  refine (c1.out _).mono ?_
  rintro e w1 ⟨rfl, hb⟩
  replace h := Below.step h hb
  replace hx0 := hx0.kept hb
  clear hb k00 k01 l0
  obtain ⟨k00, k01⟩ := hx0.two
  have l0 := hx0.lt
  go_wp2_with fail
  go_ret2
  exact ⟨none, 0, rfl, own_nil _ _, Below.step (Below.step h (below_alloc1 _ _)) (below_alloc1 _ _)⟩


set_option maxHeartbeats 1000000 in
set_option maxRecDepth 100000 in
theorem oppI_off {a b : Int} {p : Nat} (G : FG a b p) (hp : p ≤ 199) (R : Option Addr) (n c : Nat) (xs : List Int) (w : World) (hr : Rd w w.heap.size R n xs) (hno : ¬ OnL a b p xs) : Calls Try.prog 28 #[.agg #[.int .i64 a, .int .i64 b], .int .i64 (p : Int), .slice R n c] w (GivesRowOk w [] false) := by
  have c1 := fun W hR => pmI_off G hp R n c xs W hno hR
  have hrd : ∀ W, Below w.heap.size w W → Rd W W.heap.size R n xs := fun W hW => (hr.below hW).more hW.size
  replace c1 := Lib.hid c1
  replace hrd := Lib.hid hrd
  clear hr G hno
  have h := Below.refl w.heap.size w
  have hA := below_alloc1 w (.cells #[.int .i64 a, .int .i64 b] 26)
  have hx0 := Box.new w 26 #[.int .i64 a, .int .i64 b]
  replace h := Below.step h hA
  clear hA
  obtain ⟨k00, k01⟩ := hx0.two
  have l0 := hx0.lt
  go_enter Try.func28, Try.ntmps28
  go_wp2_with fail
  refine (c1.out _ (hrd.out _ h)).mono ?_
  rintro e w1 ⟨rfl, hb⟩
  replace h := Below.step h hb
  replace hx0 := hx0.kept hb
  clear hb k00 k01 l0
  obtain ⟨k00, k01⟩ := hx0.two
  have l0 := hx0.lt
  go_wp2_with fail
  go_ret2
  exact ⟨none, 0, rfl, own_nil _ _, Below.step (Below.step h (below_alloc1 _ _)) (below_alloc1 _ _)⟩


set_option maxHeartbeats 1000000 in
set_option maxRecDepth 100000 in
theorem timI_no (a b q : Int) (R : Option Addr) (n c : Nat) (w : World) (g : ¬ Gd a b q 199) (k : Int) : Calls Try.prog 34 #[.agg #[.int .i64 a, .int .i64 b], .int .i64 q, .int .i64 k, .slice R n c] w (GivesRowOk w [] false) := by
  have c1 := fun W => pmI_no a b q R n c W g
  replace c1 := Lib.hid c1
  clear g
  have h := Below.refl w.heap.size w
  have hA := below_alloc1 w (.cells #[.int .i64 a, .int .i64 b] 26)
  have hx0 := Box.new w 26 #[.int .i64 a, .int .i64 b]
  replace h := Below.step h hA
  clear hA
  obtain ⟨k00, k01⟩ := hx0.two
  have l0 := hx0.lt
  go_enter Try.func34, Try.ntmps34
  go_wp2_with fail
  refine (c1.out _).mono ?_
  rintro e w1 ⟨rfl, hb⟩
  replace h := Below.step h hb
  replace hx0 := hx0.kept hb
  clear hb k00 k01 l0
  obtain ⟨k00, k01⟩ := hx0.two
  have l0 := hx0.lt
  go_wp2_with fail
  go_ret2
  exact ⟨none, 0, rfl, own_nil _ _, Below.step (Below.step h (below_alloc1 _ _)) (below_alloc1 _ _)⟩


set_option maxHeartbeats 1000000 in
set_option maxRecDepth 100000 in
theorem timI_off {a b : Int} {p : Nat} (G : FG a b p) (hp : p ≤ 199) (R : Option Addr) (n c : Nat) (xs : List Int) (w : World) (hr : Rd w w.heap.size R n xs) (hno : ¬ OnL a b p xs) (k : Int) : Calls Try.prog 34 #[.agg #[.int .i64 a, .int .i64 b], .int .i64 (p : Int), .int .i64 k, .slice R n c] w (GivesRowOk w [] false) := by
  have c1 := fun W hR => pmI_off G hp R n c xs W hno hR
  have hrd : ∀ W, Below w.heap.size w W → Rd W W.heap.size R n xs := fun W hW => (hr.below hW).more hW.size
  replace c1 := Lib.hid c1
  replace hrd := Lib.hid hrd
  clear hr G hno
  have h := Below.refl w.heap.size w
  have hA := below_alloc1 w (.cells #[.int .i64 a, .int .i64 b] 26)
  have hx0 := Box.new w 26 #[.int .i64 a, .int .i64 b]
  replace h := Below.step h hA
  clear hA
  obtain ⟨k00, k01⟩ := hx0.two
  have l0 := hx0.lt
  go_enter Try.func34, Try.ntmps34
  go_wp2_with fail
  refine (c1.out _ (hrd.out _ h)).mono ?_
  rintro e w1 ⟨rfl, hb⟩
  replace h := Below.step h hb
  replace hx0 := hx0.kept hb
  clear hb k00 k01 l0
  obtain ⟨k00, k01⟩ := hx0.two
  have l0 := hx0.lt
  go_wp2_with fail
  go_ret2
  exact ⟨none, 0, rfl, own_nil _ _, Below.step (Below.step h (below_alloc1 _ _)) (below_alloc1 _ _)⟩


set_option maxHeartbeats 1000000 in
set_option maxRecDepth 100000 in
theorem ordI_no (a b q : Int) (R : Option Addr) (n c : Nat) (w : World) (g : ¬ Gd a b q 199) : Calls Try.prog 36 #[.agg #[.int .i64 a, .int .i64 b], .int .i64 q, .slice R n c] w (GivesIB w 0 false) := by
  have c1 := fun W => pmI_no a b q R n c W g
  replace c1 := Lib.hid c1
  clear g
  have h := Below.refl w.heap.size w
  have hA := below_alloc1 w (.cells #[.int .i64 a, .int .i64 b] 26)
  have hx0 := Box.new w 26 #[.int .i64 a, .int .i64 b]
  replace h := Below.step h hA
  clear hA
  obtain ⟨k00, k01⟩ := hx0.two
  have l0 := hx0.lt
  go_enter Try.func36, Try.ntmps36
  go_wp2_with fail
  refine (c1.out _).mono ?_
  rintro e w1 ⟨rfl, hb⟩
  replace h := Below.step h hb
  replace hx0 := hx0.kept hb
  clear hb k00 k01 l0
  obtain ⟨k00, k01⟩ := hx0.two
  have l0 := hx0.lt
  go_wp2_with fail
  go_ret2
  exact ⟨rfl, Below.step (Below.step h (below_alloc1 _ _)) (below_alloc1 _ _)⟩


set_option maxHeartbeats 1000000 in
set_option maxRecDepth 100000 in
theorem ordI_off {a b : Int} {p : Nat} (G : FG a b p) (hp : p ≤ 199) (R : Option Addr) (n c : Nat) (xs : List Int) (w : World) (hr : Rd w w.heap.size R n xs) (hno : ¬ OnL a b p xs) : Calls Try.prog 36 #[.agg #[.int .i64 a, .int .i64 b], .int .i64 (p : Int), .slice R n c] w (GivesIB w 0 false) := by
  have c1 := fun W hR => pmI_off G hp R n c xs W hno hR
  have hrd : ∀ W, Below w.heap.size w W → Rd W W.heap.size R n xs := fun W hW => (hr.below hW).more hW.size
  replace c1 := Lib.hid c1
  replace hrd := Lib.hid hrd
  clear hr G hno
  have h := Below.refl w.heap.size w
  have hA := below_alloc1 w (.cells #[.int .i64 a, .int .i64 b] 26)
  have hx0 := Box.new w 26 #[.int .i64 a, .int .i64 b]
  replace h := Below.step h hA
  clear hA
  obtain ⟨k00, k01⟩ := hx0.two
  have l0 := hx0.lt
  go_enter Try.func36, Try.ntmps36
  go_wp2_with fail
  refine (c1.out _ (hrd.out _ h)).mono ?_
  rintro e w1 ⟨rfl, hb⟩
  replace h := Below.step h hb
  replace hx0 := hx0.kept hb
  clear hb k00 k01 l0
  obtain ⟨k00, k01⟩ := hx0.two
  have l0 := hx0.lt
  go_wp2_with fail
  go_ret2
  exact ⟨rfl, Below.step (Below.step h (below_alloc1 _ _)) (below_alloc1 _ _)⟩


set_option maxHeartbeats 1000000 in
set_option maxRecDepth 100000 in
theorem oppI_yes {a b : Int} {p : Nat} (G : FG a b p) (hp : p ≤ 199) (R : Option Addr) (n c : Nat) (s : FP) (hs : FOn a b p s) (w : World) (hr : Rd w w.heap.size R n (fl s)) : Calls Try.prog 28 #[.agg #[.int .i64 a, .int .i64 b], .int .i64 (p : Int), .slice R n c] w (GivesRowOk w (fl (fneg p s)) true) := by
  have c1 := fun W hR => pmI_yes G hp R n c W s hs hR
  have hrd : ∀ W, Below w.heap.size w W → Rd W W.heap.size R n (fl s) := fun W hW => (hr.below hW).more hW.size
  have c2 := fun W => opp_any (rs p a) (rs p b) p s W G.five G.le hs
  have c3 := fun W => list_any (fneg p s) W
  generalize fneg p s = y at *
  replace c1 := Lib.hid c1
  replace c2 := Lib.hid c2
  replace c3 := Lib.hid c3
  replace hrd := Lib.hid hrd
  clear hr hs G
  have h := Below.refl w.heap.size w
  have hA := below_alloc1 w (.cells #[.int .i64 a, .int .i64 b] 26)
  have hx0 := Box.new w 26 #[.int .i64 a, .int .i64 b]
  replace h := Below.step h hA
  clear hA
  obtain ⟨k00, k01⟩ := hx0.two
  have l0 := hx0.lt
  go_enter Try.func28, Try.ntmps28
  go_wp2_with fail
  refine (c1.out _ (hrd.out _ h)).mono ?_
  rintro e w1 ⟨rfl, hb⟩
  replace h := Below.step h hb
  replace hx0 := hx0.kept hb
  clear hb k00 k01 l0
  obtain ⟨k00, k01⟩ := hx0.two
  have l0 := hx0.lt
  go_wp2_with fail
  have hxg := Box.new w1 62 #[.int .i64 (rs p a : Int), .int .i64 (rs p b : Int), .int .i64 (p : Int)]
  have hA1 := below_alloc1 w1 (.cells #[.int .i64 (rs p a : Int), .int .i64 (rs p b : Int), .int .i64 (p : Int)] 62)
  have hxq := Box.new (w1.alloc (.cells #[.int .i64 (rs p a : Int), .int .i64 (rs p b : Int), .int .i64 (p : Int)] 62)) 70 #[.int .i64 (fpx s), .int .i64 (fpy s), .int .i64 (fpz s)]
  have hA2 := below_alloc1 (w1.alloc (.cells #[.int .i64 (rs p a : Int), .int .i64 (rs p b : Int), .int .i64 (p : Int)] 62)) (.cells #[.int .i64 (fpx s), .int .i64 (fpy s), .int .i64 (fpz s)] 70)
  rw [show (w1.alloc (.cells #[.int .i64 (rs p a : Int), .int .i64 (rs p b : Int), .int .i64 (p : Int)] 62)).heap.size = w1.heap.size + 1 from by simp] at hxq
  replace hxg := hxg.kept hA2
  have hA := Below.step hA1 hA2
  have yhxg : w.heap.size ≤ w1.heap.size := h.size
  have yhxq : w1.heap.size < w1.heap.size + 1 := Nat.lt_succ_self _
  clear hA1 hA2
  replace h := Below.step h hA
  replace hx0 := hx0.kept hA
  clear hA k00 k01 l0
  generalize (w1.alloc (.cells #[.int .i64 (rs p a : Int), .int .i64 (rs p b : Int), .int .i64 (p : Int)] 62)).alloc (.cells #[.int .i64 (fpx s), .int .i64 (fpy s), .int .i64 (fpz s)] 70) = w2 at *
  generalize w1.heap.size + 1 = gq at hxq yhxq ⊢
  generalize w1.heap.size = gg at hxg yhxg yhxq ⊢
  obtain ⟨k00, k01⟩ := hx0.two
  have l0 := hx0.lt
  obtain ⟨kg0, kg1, kg2⟩ := hxg.three
  have lg := hxg.lt
  obtain ⟨kq0, kq1, kq2⟩ := hxq.three
  have lq := hxq.lt
  refine (c2.out _).mono ?_
  rintro e w3 ⟨rfl, hb⟩
  replace h := Below.step h hb
  replace hx0 := hx0.kept hb
  replace hxg := hxg.kept hb
  replace hxq := hxq.kept hb
  clear hb k00 k01 l0 kg0 kg1 kg2 lg kq0 kq1 kq2 lq
  obtain ⟨k00, k01⟩ := hx0.two
  have l0 := hx0.lt
  obtain ⟨kg0, kg1, kg2⟩ := hxg.three
  have lg := hxg.lt
  obtain ⟨kq0, kq1, kq2⟩ := hxq.three
  have lq := hxq.lt
  go_wp2_with fail
  have hsz := h.size
  refine (c3.out _).mono ?_
  rintro e w4 ⟨A1, d1, rfl, ho1, hb⟩
  replace h := Below.step h hb
  replace hx0 := hx0.kept hb
  replace hxg := hxg.kept hb
  replace hxq := hxq.kept hb
  clear hb k00 k01 l0 kg0 kg1 kg2 lg kq0 kq1 kq2 lq
  obtain ⟨k00, k01⟩ := hx0.two
  have l0 := hx0.lt
  obtain ⟨kg0, kg1, kg2⟩ := hxg.three
  have lg := hxg.lt
  obtain ⟨kq0, kq1, kq2⟩ := hxq.three
  have lq := hxq.lt
  go_wp2_with fail
  go_ret2
  exact ⟨A1, d1, rfl, ho1.le hsz, h⟩


set_option maxHeartbeats 1000000 in
set_option maxRecDepth 100000 in
theorem ordI_yes {a b : Int} {p : Nat} (G : FG a b p) (hp : p ≤ 199) (R : Option Addr) (n c : Nat) (s : FP) (hs : FOn a b p s) (w : World) (hr : Rd w w.heap.size R n (fl s)) (n0 : Nat) (hn : FOrd a p s n0) (hn2 : n0 ≤ 1000000) : Calls Try.prog 36 #[.agg #[.int .i64 a, .int .i64 b], .int .i64 (p : Int), .slice R n c] w (GivesIB w n0 true) := by
  have c1 := fun W hR => pmI_yes G hp R n c W s hs hR
  have hrd : ∀ W, Below w.heap.size w W → Rd W W.heap.size R n (fl s) := fun W hW => (hr.below hW).more hW.size
  have c2 := fun W => mults_any G s n0 W hs hn hn2
  have hlen := mulL_len a p s n0
  replace c1 := Lib.hid c1
  replace c2 := Lib.hid c2
  replace hrd := Lib.hid hrd
  replace hlen := Lib.hid hlen
  clear hr hs G hn
  have h := Below.refl w.heap.size w
  have hA := below_alloc1 w (.cells #[.int .i64 a, .int .i64 b] 26)
  have hx0 := Box.new w 26 #[.int .i64 a, .int .i64 b]
  replace h := Below.step h hA
  clear hA
  obtain ⟨k00, k01⟩ := hx0.two
  have l0 := hx0.lt
  go_enter Try.func36, Try.ntmps36
  go_wp2_with fail
  refine (c1.out _ (hrd.out _ h)).mono ?_
  rintro e w1 ⟨rfl, hb⟩
  replace h := Below.step h hb
  replace hx0 := hx0.kept hb
  clear hb k00 k01 l0
  obtain ⟨k00, k01⟩ := hx0.two
  have l0 := hx0.lt
  go_wp2_with fail
  have hxg := Box.new w1 62 #[.int .i64 (rs p a : Int), .int .i64 (rs p b : Int), .int .i64 (p : Int)]
  have hA1 := below_alloc1 w1 (.cells #[.int .i64 (rs p a : Int), .int .i64 (rs p b : Int), .int .i64 (p : Int)] 62)
  have hxq := Box.new (w1.alloc (.cells #[.int .i64 (rs p a : Int), .int .i64 (rs p b : Int), .int .i64 (p : Int)] 62)) 70 #[.int .i64 (fpx s), .int .i64 (fpy s), .int .i64 (fpz s)]
  have hA2 := below_alloc1 (w1.alloc (.cells #[.int .i64 (rs p a : Int), .int .i64 (rs p b : Int), .int .i64 (p : Int)] 62)) (.cells #[.int .i64 (fpx s), .int .i64 (fpy s), .int .i64 (fpz s)] 70)
  rw [show (w1.alloc (.cells #[.int .i64 (rs p a : Int), .int .i64 (rs p b : Int), .int .i64 (p : Int)] 62)).heap.size = w1.heap.size + 1 from by simp] at hxq
  replace hxg := hxg.kept hA2
  have hA := Below.step hA1 hA2
  have yhxg : w.heap.size ≤ w1.heap.size := h.size
  have yhxq : w1.heap.size < w1.heap.size + 1 := Nat.lt_succ_self _
  clear hA1 hA2
  replace h := Below.step h hA
  replace hx0 := hx0.kept hA
  clear hA k00 k01 l0
  generalize (w1.alloc (.cells #[.int .i64 (rs p a : Int), .int .i64 (rs p b : Int), .int .i64 (p : Int)] 62)).alloc (.cells #[.int .i64 (fpx s), .int .i64 (fpy s), .int .i64 (fpz s)] 70) = w2 at *
  generalize w1.heap.size + 1 = gq at hxq yhxq ⊢
  generalize w1.heap.size = gg at hxg yhxg yhxq ⊢
  obtain ⟨k00, k01⟩ := hx0.two
  have l0 := hx0.lt
  obtain ⟨kg0, kg1, kg2⟩ := hxg.three
  have lg := hxg.lt
  obtain ⟨kq0, kq1, kq2⟩ := hxq.three
  have lq := hxq.lt
  refine (c2.out _).mono ?_
  rintro e w3 ⟨A1, d1, rfl, ho1, hb⟩
  replace h := Below.step h hb
  replace hx0 := hx0.kept hb
  replace hxg := hxg.kept hb
  replace hxq := hxq.kept hb
  clear hb k00 k01 l0 kg0 kg1 kg2 lg kq0 kq1 kq2 lq
  obtain ⟨k00, k01⟩ := hx0.two
  have l0 := hx0.lt
  obtain ⟨kg0, kg1, kg2⟩ := hxg.three
  have lg := hxg.lt
  obtain ⟨kq0, kq1, kq2⟩ := hxq.three
  have lq := hxq.lt
  go_wp2_with fail
  go_ret2
  exact ⟨by rw [hlen.out]; rfl, h⟩


set_option maxHeartbeats 1000000 in
set_option maxRecDepth 100000 in
theorem timI_lo {a b : Int} {p : Nat} (G : FG a b p) (hp : p ≤ 199) (R : Option Addr) (n c : Nat) (s : FP) (hs : FOn a b p s) (w : World) (hr : Rd w w.heap.size R n (fl s)) (k : Int) (hk : k < -1000000000) : Calls Try.prog 34 #[.agg #[.int .i64 a, .int .i64 b], .int .i64 (p : Int), .int .i64 k, .slice R n c] w (GivesRowOk w [] false) := by
  have c1 := fun W hR => pmI_yes G hp R n c W s hs hR
  have hrd : ∀ W, Below w.heap.size w W → Rd W W.heap.size R n (fl s) := fun W hW => (hr.below hW).more hW.size
  replace c1 := Lib.hid c1
  replace hrd := Lib.hid hrd
  clear hr hs G
  have h := Below.refl w.heap.size w
  have hA := below_alloc1 w (.cells #[.int .i64 a, .int .i64 b] 26)
  have hx0 := Box.new w 26 #[.int .i64 a, .int .i64 b]
  replace h := Below.step h hA
  clear hA
  obtain ⟨k00, k01⟩ := hx0.two
  have l0 := hx0.lt
  go_enter Try.func34, Try.ntmps34
  go_wp2_with fail
  refine (c1.out _ (hrd.out _ h)).mono ?_
  rintro e w1 ⟨rfl, hb⟩
  replace h := Below.step h hb
  replace hx0 := hx0.kept hb
  clear hb k00 k01 l0
  obtain ⟨k00, k01⟩ := hx0.two
  have l0 := hx0.lt
  go_wp2_with fail
  go_ret2
  exact ⟨none, 0, rfl, own_nil _ _, Below.step (Below.step h (below_alloc1 _ _)) (below_alloc1 _ _)⟩


set_option maxHeartbeats 1000000 in
set_option maxRecDepth 100000 in
theorem timI_hi {a b : Int} {p : Nat} (G : FG a b p) (hp : p ≤ 199) (R : Option Addr) (n c : Nat) (s : FP) (hs : FOn a b p s) (w : World) (hr : Rd w w.heap.size R n (fl s)) (k : Int) (hk0 : ¬ k < -1000000000) (hk : 1000000000 < k) : Calls Try.prog 34 #[.agg #[.int .i64 a, .int .i64 b], .int .i64 (p : Int), .int .i64 k, .slice R n c] w (GivesRowOk w [] false) := by
  have c1 := fun W hR => pmI_yes G hp R n c W s hs hR
  have hrd : ∀ W, Below w.heap.size w W → Rd W W.heap.size R n (fl s) := fun W hW => (hr.below hW).more hW.size
  replace c1 := Lib.hid c1
  replace hrd := Lib.hid hrd
  clear hr hs G
  have h := Below.refl w.heap.size w
  have hA := below_alloc1 w (.cells #[.int .i64 a, .int .i64 b] 26)
  have hx0 := Box.new w 26 #[.int .i64 a, .int .i64 b]
  replace h := Below.step h hA
  clear hA
  obtain ⟨k00, k01⟩ := hx0.two
  have l0 := hx0.lt
  go_enter Try.func34, Try.ntmps34
  go_wp2_with fail
  refine (c1.out _ (hrd.out _ h)).mono ?_
  rintro e w1 ⟨rfl, hb⟩
  replace h := Below.step h hb
  replace hx0 := hx0.kept hb
  clear hb k00 k01 l0
  obtain ⟨k00, k01⟩ := hx0.two
  have l0 := hx0.lt
  go_wp2_with fail
  go_ret2
  exact ⟨none, 0, rfl, own_nil _ _, Below.step (Below.step h (below_alloc1 _ _)) (below_alloc1 _ _)⟩


set_option maxHeartbeats 1000000 in
set_option maxRecDepth 100000 in
theorem timI_pos {a b : Int} {p : Nat} (G : FG a b p) (hp : p ≤ 199) (R : Option Addr) (n c : Nat) (s : FP) (hs : FOn a b p s) (w : World) (hr : Rd w w.heap.size R n (fl s)) (N : Nat) (hN : N ≤ 1000000000) : Calls Try.prog 34 #[.agg #[.int .i64 a, .int .i64 b], .int .i64 (p : Int), .int .i64 (N : Int), .slice R n c] w (GivesRowOk w (fl (fmul a p N s)) true) := by
  have hN0 : (0 : Int) ≤ N := by omega
  have hN9 : (N : Int) ≤ 1000000000 := by omega
  have c1 := fun W hR => pmI_yes G hp R n c W s hs hR
  have hrd : ∀ W, Below w.heap.size w W → Rd W W.heap.size R n (fl s) := fun W hW => (hr.below hW).more hW.size
  have c2 := fun W => times_any G N s W hN hs
  have c3 := fun W => list_any (fmul a p N s) W
  generalize fmul a p N s = y at *
  replace c1 := Lib.hid c1
  replace c2 := Lib.hid c2
  replace c3 := Lib.hid c3
  replace hrd := Lib.hid hrd
  clear hr hs G
  have h := Below.refl w.heap.size w
  have hA := below_alloc1 w (.cells #[.int .i64 a, .int .i64 b] 26)
  have hx0 := Box.new w 26 #[.int .i64 a, .int .i64 b]
  replace h := Below.step h hA
  clear hA
  obtain ⟨k00, k01⟩ := hx0.two
  have l0 := hx0.lt
  go_enter Try.func34, Try.ntmps34
  go_wp2_with fail
  refine (c1.out _ (hrd.out _ h)).mono ?_
  rintro e w1 ⟨rfl, hb⟩
  replace h := Below.step h hb
  replace hx0 := hx0.kept hb
  clear hb k00 k01 l0
  obtain ⟨k00, k01⟩ := hx0.two
  have l0 := hx0.lt
  go_wp2_with fail
  have hxg := Box.new w1 62 #[.int .i64 (rs p a : Int), .int .i64 (rs p b : Int), .int .i64 (p : Int)]
  have hA1 := below_alloc1 w1 (.cells #[.int .i64 (rs p a : Int), .int .i64 (rs p b : Int), .int .i64 (p : Int)] 62)
  have hxq := Box.new (w1.alloc (.cells #[.int .i64 (rs p a : Int), .int .i64 (rs p b : Int), .int .i64 (p : Int)] 62)) 70 #[.int .i64 (fpx s), .int .i64 (fpy s), .int .i64 (fpz s)]
  have hA2 := below_alloc1 (w1.alloc (.cells #[.int .i64 (rs p a : Int), .int .i64 (rs p b : Int), .int .i64 (p : Int)] 62)) (.cells #[.int .i64 (fpx s), .int .i64 (fpy s), .int .i64 (fpz s)] 70)
  rw [show (w1.alloc (.cells #[.int .i64 (rs p a : Int), .int .i64 (rs p b : Int), .int .i64 (p : Int)] 62)).heap.size = w1.heap.size + 1 from by simp] at hxq
  replace hxg := hxg.kept hA2
  have hA := Below.step hA1 hA2
  have yhxg : w.heap.size ≤ w1.heap.size := h.size
  have yhxq : w1.heap.size < w1.heap.size + 1 := Nat.lt_succ_self _
  clear hA1 hA2
  replace h := Below.step h hA
  replace hx0 := hx0.kept hA
  clear hA k00 k01 l0
  generalize (w1.alloc (.cells #[.int .i64 (rs p a : Int), .int .i64 (rs p b : Int), .int .i64 (p : Int)] 62)).alloc (.cells #[.int .i64 (fpx s), .int .i64 (fpy s), .int .i64 (fpz s)] 70) = w2 at *
  generalize w1.heap.size + 1 = gq at hxq yhxq ⊢
  generalize w1.heap.size = gg at hxg yhxg yhxq ⊢
  obtain ⟨k00, k01⟩ := hx0.two
  have l0 := hx0.lt
  obtain ⟨kg0, kg1, kg2⟩ := hxg.three
  have lg := hxg.lt
  obtain ⟨kq0, kq1, kq2⟩ := hxq.three
  have lq := hxq.lt
  refine (c2.out _).mono ?_
  rintro e w3 ⟨rfl, hb⟩
  replace h := Below.step h hb
  replace hx0 := hx0.kept hb
  replace hxg := hxg.kept hb
  replace hxq := hxq.kept hb
  clear hb k00 k01 l0 kg0 kg1 kg2 lg kq0 kq1 kq2 lq
  obtain ⟨k00, k01⟩ := hx0.two
  have l0 := hx0.lt
  obtain ⟨kg0, kg1, kg2⟩ := hxg.three
  have lg := hxg.lt
  obtain ⟨kq0, kq1, kq2⟩ := hxq.three
  have lq := hxq.lt
  go_wp2_with fail
  have hsz := h.size
  refine (c3.out _).mono ?_
  rintro e w4 ⟨A1, d1, rfl, ho1, hb⟩
  replace h := Below.step h hb
  replace hx0 := hx0.kept hb
  replace hxg := hxg.kept hb
  replace hxq := hxq.kept hb
  clear hb k00 k01 l0 kg0 kg1 kg2 lg kq0 kq1 kq2 lq
  obtain ⟨k00, k01⟩ := hx0.two
  have l0 := hx0.lt
  obtain ⟨kg0, kg1, kg2⟩ := hxg.three
  have lg := hxg.lt
  obtain ⟨kq0, kq1, kq2⟩ := hxq.three
  have lq := hxq.lt
  go_wp2_with fail
  go_ret2
  exact ⟨A1, d1, rfl, ho1.le hsz, h⟩


set_option maxHeartbeats 1000000 in
set_option maxRecDepth 100000 in
theorem timI_neg {a b : Int} {p : Nat} (G : FG a b p) (hp : p ≤ 199) (R : Option Addr) (n c : Nat) (s : FP) (hs : FOn a b p s) (w : World) (hr : Rd w w.heap.size R n (fl s)) (N : Nat) (hN : N ≤ 1000000000) (k : Int) (hN1 : 1 ≤ N) (hkN : (N : Int) = -k) : Calls Try.prog 34 #[.agg #[.int .i64 a, .int .i64 b], .int .i64 (p : Int), .int .i64 k, .slice R n c] w (GivesRowOk w (fl (fmul a p N (fneg p s))) true) := by
  have hk0 : k < 0 := by omega
  have hk9 : ¬ k < -1000000000 := by omega
  have hk8 : ¬ 1000000000 < k := by omega
  have c1 := fun W hR => pmI_yes G hp R n c W s hs hR
  have hrd : ∀ W, Below w.heap.size w W → Rd W W.heap.size R n (fl s) := fun W hW => (hr.below hW).more hW.size
  have c0 := fun W => opp_any (rs p a) (rs p b) p s W G.five G.le hs
  have hs2 := G.neg_on hs
  generalize fneg p s = u at *
  have c2 := fun W => times_any G N u W hN hs2
  have c3 := fun W => list_any (fmul a p N u) W
  generalize fmul a p N u = y at *
  rw [hkN] at c2
  replace c0 := Lib.hid c0
  replace c1 := Lib.hid c1
  replace c2 := Lib.hid c2
  replace c3 := Lib.hid c3
  replace hrd := Lib.hid hrd
  clear hr hs hs2 G hkN
  have h := Below.refl w.heap.size w
  have hA := below_alloc1 w (.cells #[.int .i64 a, .int .i64 b] 26)
  have hx0 := Box.new w 26 #[.int .i64 a, .int .i64 b]
  replace h := Below.step h hA
  clear hA
  obtain ⟨k00, k01⟩ := hx0.two
  have l0 := hx0.lt
  go_enter Try.func34, Try.ntmps34
  go_wp2_with fail
  refine (c1.out _ (hrd.out _ h)).mono ?_
  rintro e w1 ⟨rfl, hb⟩
  replace h := Below.step h hb
  replace hx0 := hx0.kept hb
  clear hb k00 k01 l0
  obtain ⟨k00, k01⟩ := hx0.two
  have l0 := hx0.lt
  go_wp2_with fail
  have hxg := Box.new w1 62 #[.int .i64 (rs p a : Int), .int .i64 (rs p b : Int), .int .i64 (p : Int)]
  have hA1 := below_alloc1 w1 (.cells #[.int .i64 (rs p a : Int), .int .i64 (rs p b : Int), .int .i64 (p : Int)] 62)
  have hxq := Box.new (w1.alloc (.cells #[.int .i64 (rs p a : Int), .int .i64 (rs p b : Int), .int .i64 (p : Int)] 62)) 70 #[.int .i64 (fpx s), .int .i64 (fpy s), .int .i64 (fpz s)]
  have hA2 := below_alloc1 (w1.alloc (.cells #[.int .i64 (rs p a : Int), .int .i64 (rs p b : Int), .int .i64 (p : Int)] 62)) (.cells #[.int .i64 (fpx s), .int .i64 (fpy s), .int .i64 (fpz s)] 70)
  rw [show (w1.alloc (.cells #[.int .i64 (rs p a : Int), .int .i64 (rs p b : Int), .int .i64 (p : Int)] 62)).heap.size = w1.heap.size + 1 from by simp] at hxq
  replace hxg := hxg.kept hA2
  have hA := Below.step hA1 hA2
  have yhxg : w.heap.size ≤ w1.heap.size := h.size
  have yhxq : w1.heap.size < w1.heap.size + 1 := Nat.lt_succ_self _
  clear hA1 hA2
  replace h := Below.step h hA
  replace hx0 := hx0.kept hA
  clear hA k00 k01 l0
  generalize (w1.alloc (.cells #[.int .i64 (rs p a : Int), .int .i64 (rs p b : Int), .int .i64 (p : Int)] 62)).alloc (.cells #[.int .i64 (fpx s), .int .i64 (fpy s), .int .i64 (fpz s)] 70) = w2 at *
  generalize w1.heap.size + 1 = gq at hxq yhxq ⊢
  generalize w1.heap.size = gg at hxg yhxg yhxq ⊢
  obtain ⟨k00, k01⟩ := hx0.two
  have l0 := hx0.lt
  obtain ⟨kg0, kg1, kg2⟩ := hxg.three
  have lg := hxg.lt
  obtain ⟨kq0, kq1, kq2⟩ := hxq.three
  have lq := hxq.lt
  refine (c0.out _).mono ?_
  rintro e w3 ⟨rfl, hb⟩
  replace h := Below.step h hb
  replace hx0 := hx0.kept hb
  replace hxg := hxg.kept hb
  replace hxq := hxq.kept hb
  clear hb k00 k01 l0 kg0 kg1 kg2 lg kq0 kq1 kq2 lq
  obtain ⟨k00, k01⟩ := hx0.two
  have l0 := hx0.lt
  obtain ⟨kg0, kg1, kg2⟩ := hxg.three
  have lg := hxg.lt
  obtain ⟨kq0, kq1, kq2⟩ := hxq.three
  have lq := hxq.lt
  have fq0 := hxq.free 0
  have fq1 := hxq.free 1
  have fq2 := hxq.free 2
  go_wp2_with fail
  clear k00 k01 l0 kg0 kg1 kg2 lg kq0 kq1 kq2 lq fq0 fq1 fq2
  have hq0 := hxq.lt
  replace h := below_sets3 (g := gq) h (by omega) (.int .i64 (fpx u)) (.int .i64 (fpy u)) (.int .i64 (fpz u))
  replace hx0 := hx0.off3 (show _ ≠ gq by omega) (.int .i64 (fpx u)) (.int .i64 (fpy u)) (.int .i64 (fpz u))
  replace hxg := hxg.off3 (show _ ≠ gq by omega) (.int .i64 (fpx u)) (.int .i64 (fpy u)) (.int .i64 (fpz u))
  replace hxq := hxq.set3 (.int .i64 (fpx u)) (.int .i64 (fpy u)) (.int .i64 (fpz u))
  clear hq0
  generalize (((w3.setCell ⟨gq, 0, none⟩ (.int .i64 (fpx u))).setCell ⟨gq, 1, none⟩ (.int .i64 (fpy u))).setCell ⟨gq, 2, none⟩ (.int .i64 (fpz u))) = w4 at *
  obtain ⟨k00, k01⟩ := hx0.two
  have l0 := hx0.lt
  obtain ⟨kg0, kg1, kg2⟩ := hxg.three
  have lg := hxg.lt
  obtain ⟨kq0, kq1, kq2⟩ := hxq.three
  have lq := hxq.lt
  go_wp2_with fail
  refine (c2.out _).mono ?_
  rintro e w5 ⟨rfl, hb⟩
  replace h := Below.step h hb
  replace hx0 := hx0.kept hb
  replace hxg := hxg.kept hb
  replace hxq := hxq.kept hb
  clear hb k00 k01 l0 kg0 kg1 kg2 lg kq0 kq1 kq2 lq
  obtain ⟨k00, k01⟩ := hx0.two
  have l0 := hx0.lt
  obtain ⟨kg0, kg1, kg2⟩ := hxg.three
  have lg := hxg.lt
  obtain ⟨kq0, kq1, kq2⟩ := hxq.three
  have lq := hxq.lt
  go_wp2_with fail
  have hsz := h.size
  refine (c3.out _).mono ?_
  rintro e w6 ⟨A1, d1, rfl, ho1, hb⟩
  replace h := Below.step h hb
  replace hx0 := hx0.kept hb
  replace hxg := hxg.kept hb
  replace hxq := hxq.kept hb
  clear hb k00 k01 l0 kg0 kg1 kg2 lg kq0 kq1 kq2 lq
  obtain ⟨k00, k01⟩ := hx0.two
  have l0 := hx0.lt
  obtain ⟨kg0, kg1, kg2⟩ := hxg.three
  have lg := hxg.lt
  obtain ⟨kq0, kq1, kq2⟩ := hxq.three
  have lq := hxq.lt
  go_wp2_with fail
  go_ret2
  exact ⟨A1, d1, rfl, ho1.le hsz, h⟩


set_option maxHeartbeats 1000000 in
set_option maxRecDepth 100000 in
theorem addI_no (a b q : Int) (R : Option Addr) (n c : Nat) (w : World) (g : ¬ Gd a b q 199) (S : Option Addr) (m d : Nat) : Calls Try.prog 32 #[.agg #[.int .i64 a, .int .i64 b], .int .i64 q, .slice R n c, .slice S m d] w (GivesRowOk w [] false) := by
  have c1 := fun W => pmI_no a b q R n c W g
  have c2 := fun W => pmI_no a b q S m d W g
  replace c1 := Lib.hid c1
  replace c2 := Lib.hid c2
  clear g
  have h := Below.refl w.heap.size w
  have hA := below_alloc1 w (.cells #[.int .i64 a, .int .i64 b] 26)
  have hx0 := Box.new w 26 #[.int .i64 a, .int .i64 b]
  replace h := Below.step h hA
  clear hA
  obtain ⟨k00, k01⟩ := hx0.two
  have l0 := hx0.lt
  go_enter Try.func32, Try.ntmps32
  go_wp2_with fail
  refine (c1.out _).mono ?_
  rintro e w1 ⟨rfl, hb⟩
  replace h := Below.step h hb
  replace hx0 := hx0.kept hb
  clear hb k00 k01 l0
  obtain ⟨k00, k01⟩ := hx0.two
  have l0 := hx0.lt
  go_wp2_with fail
  have hxg := Box.new w1 62 #[.int .i64 0, .int .i64 0, .int .i64 0]
  have hA1 := below_alloc1 w1 (.cells #[.int .i64 0, .int .i64 0, .int .i64 0] 62)
  have hxq := Box.new (w1.alloc (.cells #[.int .i64 0, .int .i64 0, .int .i64 0] 62)) 70 #[.int .i64 (fpx none), .int .i64 (fpy none), .int .i64 (fpz none)]
  have hA2 := below_alloc1 (w1.alloc (.cells #[.int .i64 0, .int .i64 0, .int .i64 0] 62)) (.cells #[.int .i64 (fpx none), .int .i64 (fpy none), .int .i64 (fpz none)] 70)
  rw [show (w1.alloc (.cells #[.int .i64 0, .int .i64 0, .int .i64 0] 62)).heap.size = w1.heap.size + 1 from by simp] at hxq
  replace hxg := hxg.kept hA2
  have hA := Below.step hA1 hA2
  have yhxg : w.heap.size ≤ w1.heap.size := h.size
  have yhxq : w1.heap.size < w1.heap.size + 1 := Nat.lt_succ_self _
  clear hA1 hA2
  replace h := Below.step h hA
  replace hx0 := hx0.kept hA
  clear hA k00 k01 l0
  generalize (w1.alloc (.cells #[.int .i64 0, .int .i64 0, .int .i64 0] 62)).alloc (.cells #[.int .i64 (fpx none), .int .i64 (fpy none), .int .i64 (fpz none)] 70) = w2 at *
  generalize w1.heap.size + 1 = gq at hxq yhxq ⊢
  generalize w1.heap.size = gg at hxg yhxg yhxq ⊢
  obtain ⟨k00, k01⟩ := hx0.two
  have l0 := hx0.lt
  obtain ⟨kg0, kg1, kg2⟩ := hxg.three
  have lg := hxg.lt
  obtain ⟨kq0, kq1, kq2⟩ := hxq.three
  have lq := hxq.lt
  refine (c2.out _).mono ?_
  rintro e w3 ⟨rfl, hb⟩
  replace h := Below.step h hb
  replace hx0 := hx0.kept hb
  replace hxg := hxg.kept hb
  replace hxq := hxq.kept hb
  clear hb k00 k01 l0 kg0 kg1 kg2 lg kq0 kq1 kq2 lq
  obtain ⟨k00, k01⟩ := hx0.two
  have l0 := hx0.lt
  obtain ⟨kg0, kg1, kg2⟩ := hxg.three
  have lg := hxg.lt
  obtain ⟨kq0, kq1, kq2⟩ := hxq.three
  have lq := hxq.lt
  go_wp2_with fail
  go_ret2
  exact ⟨none, 0, rfl, own_nil _ _, Below.step (Below.step h (below_alloc1 _ _)) (below_alloc1 _ _)⟩


set_option maxHeartbeats 1000000 in
set_option maxRecDepth 100000 in
theorem addI_off1 {a b : Int} {p : Nat} (G : FG a b p) (hp : p ≤ 199) (R : Option Addr) (n c : Nat) (xs : List Int) (w : World) (hr : Rd w w.heap.size R n xs) (hno : ¬ OnL a b p xs) (S : Option Addr) (m d : Nat) (ys : List Int) (ht : Rd w w.heap.size S m ys) (u : FP) (ok : Bool) (key : ∀ W : World, Rd W W.heap.size S m ys → Calls Try.prog 58 #[.agg #[.int .i64 a, .int .i64 b], .int .i64 (p : Int), .slice S m d] W (GivesFP W (rs p a) (rs p b) p u ok)) : Calls Try.prog 32 #[.agg #[.int .i64 a, .int .i64 b], .int .i64 (p : Int), .slice R n c, .slice S m d] w (GivesRowOk w [] false) := by
  have c1 := fun W hR => pmI_off G hp R n c xs W hno hR
  have c2 := fun W hR => key W hR
  have hrd : ∀ W, Below w.heap.size w W → Rd W W.heap.size R n xs := fun W hW => (hr.below hW).more hW.size
  have hrt : ∀ W, Below w.heap.size w W → Rd W W.heap.size S m ys := fun W hW => (ht.below hW).more hW.size
  replace c1 := Lib.hid c1
  replace c2 := Lib.hid c2
  replace hrd := Lib.hid hrd
  replace hrt := Lib.hid hrt
  clear hr ht G hno key
  have h := Below.refl w.heap.size w
  have hA := below_alloc1 w (.cells #[.int .i64 a, .int .i64 b] 26)
  have hx0 := Box.new w 26 #[.int .i64 a, .int .i64 b]
  replace h := Below.step h hA
  clear hA
  obtain ⟨k00, k01⟩ := hx0.two
  have l0 := hx0.lt
  go_enter Try.func32, Try.ntmps32
  go_wp2_with fail
  refine (c1.out _ (hrd.out _ h)).mono ?_
  rintro e w1 ⟨rfl, hb⟩
  replace h := Below.step h hb
  replace hx0 := hx0.kept hb
  clear hb k00 k01 l0
  obtain ⟨k00, k01⟩ := hx0.two
  have l0 := hx0.lt
  go_wp2_with fail
  have hxg := Box.new w1 62 #[.int .i64 (rs p a : Int), .int .i64 (rs p b : Int), .int .i64 (p : Int)]
  have hA1 := below_alloc1 w1 (.cells #[.int .i64 (rs p a : Int), .int .i64 (rs p b : Int), .int .i64 (p : Int)] 62)
  have hxq := Box.new (w1.alloc (.cells #[.int .i64 (rs p a : Int), .int .i64 (rs p b : Int), .int .i64 (p : Int)] 62)) 70 #[.int .i64 (fpx none), .int .i64 (fpy none), .int .i64 (fpz none)]
  have hA2 := below_alloc1 (w1.alloc (.cells #[.int .i64 (rs p a : Int), .int .i64 (rs p b : Int), .int .i64 (p : Int)] 62)) (.cells #[.int .i64 (fpx none), .int .i64 (fpy none), .int .i64 (fpz none)] 70)
  rw [show (w1.alloc (.cells #[.int .i64 (rs p a : Int), .int .i64 (rs p b : Int), .int .i64 (p : Int)] 62)).heap.size = w1.heap.size + 1 from by simp] at hxq
  replace hxg := hxg.kept hA2
  have hA := Below.step hA1 hA2
  have yhxg : w.heap.size ≤ w1.heap.size := h.size
  have yhxq : w1.heap.size < w1.heap.size + 1 := Nat.lt_succ_self _
  clear hA1 hA2
  replace h := Below.step h hA
  replace hx0 := hx0.kept hA
  clear hA k00 k01 l0
  generalize (w1.alloc (.cells #[.int .i64 (rs p a : Int), .int .i64 (rs p b : Int), .int .i64 (p : Int)] 62)).alloc (.cells #[.int .i64 (fpx none), .int .i64 (fpy none), .int .i64 (fpz none)] 70) = w2 at *
  generalize w1.heap.size + 1 = gq at hxq yhxq ⊢
  generalize w1.heap.size = gg at hxg yhxg yhxq ⊢
  obtain ⟨k00, k01⟩ := hx0.two
  have l0 := hx0.lt
  obtain ⟨kg0, kg1, kg2⟩ := hxg.three
  have lg := hxg.lt
  obtain ⟨kq0, kq1, kq2⟩ := hxq.three
  have lq := hxq.lt
  refine (c2.out _ (hrt.out _ h)).mono ?_
  rintro e w3 ⟨rfl, hb⟩
  replace h := Below.step h hb
  replace hx0 := hx0.kept hb
  replace hxg := hxg.kept hb
  replace hxq := hxq.kept hb
  clear hb k00 k01 l0 kg0 kg1 kg2 lg kq0 kq1 kq2 lq
  obtain ⟨k00, k01⟩ := hx0.two
  have l0 := hx0.lt
  obtain ⟨kg0, kg1, kg2⟩ := hxg.three
  have lg := hxg.lt
  obtain ⟨kq0, kq1, kq2⟩ := hxq.three
  have lq := hxq.lt
  go_wp2_with fail
  go_ret2
  exact ⟨none, 0, rfl, own_nil _ _, Below.step (Below.step h (below_alloc1 _ _)) (below_alloc1 _ _)⟩


set_option maxHeartbeats 1000000 in
set_option maxRecDepth 100000 in
theorem addI_off2 {a b : Int} {p : Nat} (G : FG a b p) (hp : p ≤ 199) (R : Option Addr) (n c : Nat) (s : FP) (hs : FOn a b p s) (w : World) (hr : Rd w w.heap.size R n (fl s)) (S : Option Addr) (m d : Nat) (ys : List Int) (ht : Rd w w.heap.size S m ys) (hno : ¬ OnL a b p ys) : Calls Try.prog 32 #[.agg #[.int .i64 a, .int .i64 b], .int .i64 (p : Int), .slice R n c, .slice S m d] w (GivesRowOk w [] false) := by
  have c1 := fun W hR => pmI_yes G hp R n c W s hs hR
  have hrd : ∀ W, Below w.heap.size w W → Rd W W.heap.size R n (fl s) := fun W hW => (hr.below hW).more hW.size
  have c2 := fun W hR => pmI_off G hp S m d ys W hno hR
  have hrt : ∀ W, Below w.heap.size w W → Rd W W.heap.size S m ys := fun W hW => (ht.below hW).more hW.size
  replace c1 := Lib.hid c1
  replace c2 := Lib.hid c2
  replace hrd := Lib.hid hrd
  replace hrt := Lib.hid hrt
  clear hr ht hs G hno
  have h := Below.refl w.heap.size w
  have hA := below_alloc1 w (.cells #[.int .i64 a, .int .i64 b] 26)
  have hx0 := Box.new w 26 #[.int .i64 a, .int .i64 b]
  replace h := Below.step h hA
  clear hA
  obtain ⟨k00, k01⟩ := hx0.two
  have l0 := hx0.lt
  go_enter Try.func32, Try.ntmps32
  go_wp2_with fail
  refine (c1.out _ (hrd.out _ h)).mono ?_
  rintro e w1 ⟨rfl, hb⟩
  replace h := Below.step h hb
  replace hx0 := hx0.kept hb
  clear hb k00 k01 l0
  obtain ⟨k00, k01⟩ := hx0.two
  have l0 := hx0.lt
  go_wp2_with fail
  have hxg := Box.new w1 62 #[.int .i64 (rs p a : Int), .int .i64 (rs p b : Int), .int .i64 (p : Int)]
  have hA1 := below_alloc1 w1 (.cells #[.int .i64 (rs p a : Int), .int .i64 (rs p b : Int), .int .i64 (p : Int)] 62)
  have hxq := Box.new (w1.alloc (.cells #[.int .i64 (rs p a : Int), .int .i64 (rs p b : Int), .int .i64 (p : Int)] 62)) 70 #[.int .i64 (fpx s), .int .i64 (fpy s), .int .i64 (fpz s)]
  have hA2 := below_alloc1 (w1.alloc (.cells #[.int .i64 (rs p a : Int), .int .i64 (rs p b : Int), .int .i64 (p : Int)] 62)) (.cells #[.int .i64 (fpx s), .int .i64 (fpy s), .int .i64 (fpz s)] 70)
  rw [show (w1.alloc (.cells #[.int .i64 (rs p a : Int), .int .i64 (rs p b : Int), .int .i64 (p : Int)] 62)).heap.size = w1.heap.size + 1 from by simp] at hxq
  replace hxg := hxg.kept hA2
  have hA := Below.step hA1 hA2
  have yhxg : w.heap.size ≤ w1.heap.size := h.size
  have yhxq : w1.heap.size < w1.heap.size + 1 := Nat.lt_succ_self _
  clear hA1 hA2
  replace h := Below.step h hA
  replace hx0 := hx0.kept hA
  clear hA k00 k01 l0
  generalize (w1.alloc (.cells #[.int .i64 (rs p a : Int), .int .i64 (rs p b : Int), .int .i64 (p : Int)] 62)).alloc (.cells #[.int .i64 (fpx s), .int .i64 (fpy s), .int .i64 (fpz s)] 70) = w2 at *
  generalize w1.heap.size + 1 = gq at hxq yhxq ⊢
  generalize w1.heap.size = gg at hxg yhxg yhxq ⊢
  obtain ⟨k00, k01⟩ := hx0.two
  have l0 := hx0.lt
  obtain ⟨kg0, kg1, kg2⟩ := hxg.three
  have lg := hxg.lt
  obtain ⟨kq0, kq1, kq2⟩ := hxq.three
  have lq := hxq.lt
  refine (c2.out _ (hrt.out _ h)).mono ?_
  rintro e w3 ⟨rfl, hb⟩
  replace h := Below.step h hb
  replace hx0 := hx0.kept hb
  replace hxg := hxg.kept hb
  replace hxq := hxq.kept hb
  clear hb k00 k01 l0 kg0 kg1 kg2 lg kq0 kq1 kq2 lq
  obtain ⟨k00, k01⟩ := hx0.two
  have l0 := hx0.lt
  obtain ⟨kg0, kg1, kg2⟩ := hxg.three
  have lg := hxg.lt
  obtain ⟨kq0, kq1, kq2⟩ := hxq.three
  have lq := hxq.lt
  go_wp2_with fail
  go_ret2
  exact ⟨none, 0, rfl, own_nil _ _, Below.step (Below.step h (below_alloc1 _ _)) (below_alloc1 _ _)⟩


set_option maxHeartbeats 1000000 in
set_option maxRecDepth 100000 in
theorem addI_yes {a b : Int} {p : Nat} (G : FG a b p) (hp : p ≤ 199) (R : Option Addr) (n c : Nat) (s : FP) (hs : FOn a b p s) (w : World) (hr : Rd w w.heap.size R n (fl s)) (S : Option Addr) (m d : Nat) (u : FP) (hu : FOn a b p u) (ht : Rd w w.heap.size S m (fl u)) : Calls Try.prog 32 #[.agg #[.int .i64 a, .int .i64 b], .int .i64 (p : Int), .slice R n c, .slice S m d] w (GivesRowOk w (fl (fadd a p s u)) true) := by
  have c1 := fun W hR => pmI_yes G hp R n c W s hs hR
  have hrd : ∀ W, Below w.heap.size w W → Rd W W.heap.size R n (fl s) := fun W hW => (hr.below hW).more hW.size
  have c2 := fun W hR => pmI_yes G hp S m d W u hu hR
  have hrt : ∀ W, Below w.heap.size w W → Rd W W.heap.size S m (fl u) := fun W hW => (ht.below hW).more hW.size
  have c3 := fun W => sum_any G s u W hs hu
  have c4 := fun W => list_any (fadd a p s u) W
  generalize fadd a p s u = y at *
  replace c1 := Lib.hid c1
  replace c2 := Lib.hid c2
  replace c3 := Lib.hid c3
  replace c4 := Lib.hid c4
  replace hrd := Lib.hid hrd
  replace hrt := Lib.hid hrt
  clear hr ht hs hu G
  have h := Below.refl w.heap.size w
  have hA := below_alloc1 w (.cells #[.int .i64 a, .int .i64 b] 26)
  have hx0 := Box.new w 26 #[.int .i64 a, .int .i64 b]
  replace h := Below.step h hA
  clear hA
  obtain ⟨k00, k01⟩ := hx0.two
  have l0 := hx0.lt
  go_enter Try.func32, Try.ntmps32
  go_wp2_with fail
  refine (c1.out _ (hrd.out _ h)).mono ?_
  rintro e w1 ⟨rfl, hb⟩
  replace h := Below.step h hb
  replace hx0 := hx0.kept hb
  clear hb k00 k01 l0
  obtain ⟨k00, k01⟩ := hx0.two
  have l0 := hx0.lt
  go_wp2_with fail
  have hxg := Box.new w1 62 #[.int .i64 (rs p a : Int), .int .i64 (rs p b : Int), .int .i64 (p : Int)]
  have hA1 := below_alloc1 w1 (.cells #[.int .i64 (rs p a : Int), .int .i64 (rs p b : Int), .int .i64 (p : Int)] 62)
  have hxq := Box.new (w1.alloc (.cells #[.int .i64 (rs p a : Int), .int .i64 (rs p b : Int), .int .i64 (p : Int)] 62)) 70 #[.int .i64 (fpx s), .int .i64 (fpy s), .int .i64 (fpz s)]
  have hA2 := below_alloc1 (w1.alloc (.cells #[.int .i64 (rs p a : Int), .int .i64 (rs p b : Int), .int .i64 (p : Int)] 62)) (.cells #[.int .i64 (fpx s), .int .i64 (fpy s), .int .i64 (fpz s)] 70)
  rw [show (w1.alloc (.cells #[.int .i64 (rs p a : Int), .int .i64 (rs p b : Int), .int .i64 (p : Int)] 62)).heap.size = w1.heap.size + 1 from by simp] at hxq
  replace hxg := hxg.kept hA2
  have hA := Below.step hA1 hA2
  have yhxg : w.heap.size ≤ w1.heap.size := h.size
  have yhxq : w1.heap.size < w1.heap.size + 1 := Nat.lt_succ_self _
  clear hA1 hA2
  replace h := Below.step h hA
  replace hx0 := hx0.kept hA
  clear hA k00 k01 l0
  generalize (w1.alloc (.cells #[.int .i64 (rs p a : Int), .int .i64 (rs p b : Int), .int .i64 (p : Int)] 62)).alloc (.cells #[.int .i64 (fpx s), .int .i64 (fpy s), .int .i64 (fpz s)] 70) = w2 at *
  generalize w1.heap.size + 1 = gq at hxq yhxq ⊢
  generalize w1.heap.size = gg at hxg yhxg yhxq ⊢
  obtain ⟨k00, k01⟩ := hx0.two
  have l0 := hx0.lt
  obtain ⟨kg0, kg1, kg2⟩ := hxg.three
  have lg := hxg.lt
  obtain ⟨kq0, kq1, kq2⟩ := hxq.three
  have lq := hxq.lt
  refine (c2.out _ (hrt.out _ h)).mono ?_
  rintro e w3 ⟨rfl, hb⟩
  replace h := Below.step h hb
  replace hx0 := hx0.kept hb
  replace hxg := hxg.kept hb
  replace hxq := hxq.kept hb
  clear hb k00 k01 l0 kg0 kg1 kg2 lg kq0 kq1 kq2 lq
  obtain ⟨k00, k01⟩ := hx0.two
  have l0 := hx0.lt
  obtain ⟨kg0, kg1, kg2⟩ := hxg.three
  have lg := hxg.lt
  obtain ⟨kq0, kq1, kq2⟩ := hxq.three
  have lq := hxq.lt
  go_wp2_with fail
  have hxi := Box.new w3 62 #[.int .i64 (rs p a : Int), .int .i64 (rs p b : Int), .int .i64 (p : Int)]
  have hA1 := below_alloc1 w3 (.cells #[.int .i64 (rs p a : Int), .int .i64 (rs p b : Int), .int .i64 (p : Int)] 62)
  have hxj := Box.new (w3.alloc (.cells #[.int .i64 (rs p a : Int), .int .i64 (rs p b : Int), .int .i64 (p : Int)] 62)) 70 #[.int .i64 (fpx u), .int .i64 (fpy u), .int .i64 (fpz u)]
  have hA2 := below_alloc1 (w3.alloc (.cells #[.int .i64 (rs p a : Int), .int .i64 (rs p b : Int), .int .i64 (p : Int)] 62)) (.cells #[.int .i64 (fpx u), .int .i64 (fpy u), .int .i64 (fpz u)] 70)
  rw [show (w3.alloc (.cells #[.int .i64 (rs p a : Int), .int .i64 (rs p b : Int), .int .i64 (p : Int)] 62)).heap.size = w3.heap.size + 1 from by simp] at hxj
  replace hxi := hxi.kept hA2
  have hA := Below.step hA1 hA2
  have yhxi : w.heap.size ≤ w3.heap.size := h.size
  have yhxj : w3.heap.size < w3.heap.size + 1 := Nat.lt_succ_self _
  clear hA1 hA2
  replace h := Below.step h hA
  replace hx0 := hx0.kept hA
  replace hxg := hxg.kept hA
  replace hxq := hxq.kept hA
  clear hA k00 k01 l0 kg0 kg1 kg2 lg kq0 kq1 kq2 lq
  generalize (w3.alloc (.cells #[.int .i64 (rs p a : Int), .int .i64 (rs p b : Int), .int .i64 (p : Int)] 62)).alloc (.cells #[.int .i64 (fpx u), .int .i64 (fpy u), .int .i64 (fpz u)] 70) = w4 at *
  generalize w3.heap.size + 1 = gj at hxj yhxj ⊢
  generalize w3.heap.size = gi at hxi yhxi yhxj ⊢
  obtain ⟨k00, k01⟩ := hx0.two
  have l0 := hx0.lt
  obtain ⟨kg0, kg1, kg2⟩ := hxg.three
  have lg := hxg.lt
  obtain ⟨kq0, kq1, kq2⟩ := hxq.three
  have lq := hxq.lt
  obtain ⟨ki0, ki1, ki2⟩ := hxi.three
  have li := hxi.lt
  obtain ⟨kj0, kj1, kj2⟩ := hxj.three
  have lj := hxj.lt
  refine (c3.out _).mono ?_
  rintro e w5 ⟨rfl, hb⟩
  replace h := Below.step h hb
  replace hx0 := hx0.kept hb
  replace hxg := hxg.kept hb
  replace hxq := hxq.kept hb
  replace hxi := hxi.kept hb
  replace hxj := hxj.kept hb
  clear hb k00 k01 l0 kg0 kg1 kg2 lg kq0 kq1 kq2 lq ki0 ki1 ki2 li kj0 kj1 kj2 lj
  obtain ⟨k00, k01⟩ := hx0.two
  have l0 := hx0.lt
  obtain ⟨kg0, kg1, kg2⟩ := hxg.three
  have lg := hxg.lt
  obtain ⟨kq0, kq1, kq2⟩ := hxq.three
  have lq := hxq.lt
  obtain ⟨ki0, ki1, ki2⟩ := hxi.three
  have li := hxi.lt
  obtain ⟨kj0, kj1, kj2⟩ := hxj.three
  have lj := hxj.lt
  go_wp2_with fail
  have hsz := h.size
  refine (c4.out _).mono ?_
  rintro e w6 ⟨A1, d1, rfl, ho1, hb⟩
  replace h := Below.step h hb
  replace hx0 := hx0.kept hb
  replace hxg := hxg.kept hb
  replace hxq := hxq.kept hb
  replace hxi := hxi.kept hb
  replace hxj := hxj.kept hb
  clear hb k00 k01 l0 kg0 kg1 kg2 lg kq0 kq1 kq2 lq ki0 ki1 ki2 li kj0 kj1 kj2 lj
  obtain ⟨k00, k01⟩ := hx0.two
  have l0 := hx0.lt
  obtain ⟨kg0, kg1, kg2⟩ := hxg.three
  have lg := hxg.lt
  obtain ⟨kq0, kq1, kq2⟩ := hxq.three
  have lq := hxq.lt
  obtain ⟨ki0, ki1, ki2⟩ := hxi.three
  have li := hxi.lt
  obtain ⟨kj0, kj1, kj2⟩ := hxj.three
  have lj := hxj.lt
  go_wp2_with fail
  go_ret2
  exact ⟨A1, d1, rfl, ho1.le hsz, h⟩

end Go.Proofs.Ytbgoiflkpefckaa
