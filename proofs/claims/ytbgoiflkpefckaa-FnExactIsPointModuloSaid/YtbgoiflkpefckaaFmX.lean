/- The model's exported functions over points modulo a prime (written by wip/gen/fmx.py). -/
import Derived.Test.YtbgoiflkpefckaaFmI7
import Derived.Deep.RegionHeld3
import Derived.Deep.DeepCutAuto
import Derived.StillTailTactics
namespace Go.Proofs.Ytbgoiflkpefckaa
open Go.RowKit Go.Joins

set_option maxHeartbeats 1000000 in
set_option maxRecDepth 100000 in
theorem isPS_no (a b q : Int) (R : Option Addr) (n c : Nat) (w : World) (g : ¬ Gd a b q 199) : Calls Try.prog 23 #[.agg #[.int .i64 a, .int .i64 b], .int .i64 q, .slice R n c] w (GivesBB w false false) := by
  have c1 := fun W => smallS_any a b q W false ⟨fun e => (by cases e), fun e => absurd e g⟩
  replace c1 := Lib.hid c1
  clear g
  have h := Below.refl w.heap.size w
  have hA := below_alloc1 w (.cells #[.int .i64 a, .int .i64 b] 26)
  have hx0 := Box.new w 26 #[.int .i64 a, .int .i64 b]
  replace h := Below.step h hA
  clear hA
  obtain ⟨k00, k01⟩ := hx0.two
  have l0 := hx0.lt
  go_enter Try.func23, Try.ntmps23
  go_wp2_with fail
  refine (c1.out _).mono ?_
  rintro e w1 ⟨rfl, hb⟩
  replace h := Below.step h hb
  replace hx0 := hx0.kept hb
  clear hb k00 k01 l0
  obtain ⟨k00, k01⟩ := hx0.two
  have l0 := hx0.lt
  go_wp2_with fail
  go_ret2
  exact ⟨rfl, h⟩


set_option maxHeartbeats 1000000 in
set_option maxRecDepth 100000 in
theorem isPS_yes {a b : Int} {p : Nat} (G : FG a b p) (hp : p ≤ 199) (R : Option Addr) (n c : Nat) (xs : List Int) (w : World) (hr : Rd w w.heap.size R n xs) (B : Bool) (hB : B = true ↔ OnL a b p xs) : Calls Try.prog 23 #[.agg #[.int .i64 a, .int .i64 b], .int .i64 (p : Int), .slice R n c] w (GivesBB w B true) := by
  have c1 := fun W => smallS_any a b (p : Int) W true ⟨fun _ => ⟨p, rfl, G, hp⟩, fun _ => rfl⟩
  have c2 := fun W hR => fmOn_any G R n c xs W hR B hB
  have hrd : ∀ W, Below w.heap.size w W → Rd W W.heap.size R n xs := fun W hW => (hr.below hW).more hW.size
  replace c1 := Lib.hid c1
  replace c2 := Lib.hid c2
  replace hrd := Lib.hid hrd
  clear hr G hB
  have h := Below.refl w.heap.size w
  have hA := below_alloc1 w (.cells #[.int .i64 a, .int .i64 b] 26)
  have hx0 := Box.new w 26 #[.int .i64 a, .int .i64 b]
  replace h := Below.step h hA
  clear hA
  obtain ⟨k00, k01⟩ := hx0.two
  have l0 := hx0.lt
  go_enter Try.func23, Try.ntmps23
  go_wp2_with fail
  refine (c1.out _).mono ?_
  rintro e w1 ⟨rfl, hb⟩
  replace h := Below.step h hb
  replace hx0 := hx0.kept hb
  clear hb k00 k01 l0
  obtain ⟨k00, k01⟩ := hx0.two
  have l0 := hx0.lt
  go_wp2_with fail
  refine (c2.out _ (hrd.out _ h)).mono ?_
  rintro e w2 ⟨rfl, hb⟩
  replace h := Below.step h hb
  replace hx0 := hx0.kept hb
  clear hb k00 k01 l0
  obtain ⟨k00, k01⟩ := hx0.two
  have l0 := hx0.lt
  go_wp2_with fail
  go_ret2
  exact ⟨rfl, h⟩


set_option maxHeartbeats 1000000 in
set_option maxRecDepth 100000 in
theorem isPI_no (a b q : Int) (R : Option Addr) (n c : Nat) (w : World) (g : ¬ Gd a b q 199) : Calls Try.prog 25 #[.agg #[.int .i64 a, .int .i64 b], .int .i64 q, .slice R n c] w (GivesBB w false false) := by
  have c1 := fun W => curveMod_no a b q 199 W g
  rw [show ((199 : Nat) : Int) = 199 from rfl] at c1
  replace c1 := Lib.hid c1
  clear g
  have h := Below.refl w.heap.size w
  have hA := below_alloc1 w (.cells #[.int .i64 a, .int .i64 b] 26)
  have hx0 := Box.new w 26 #[.int .i64 a, .int .i64 b]
  replace h := Below.step h hA
  clear hA
  obtain ⟨k00, k01⟩ := hx0.two
  have l0 := hx0.lt
  go_enter Try.func25, Try.ntmps25
  go_wp2_with fail
  refine (c1.out _).mono ?_
  rintro e w1 ⟨rfl, hb⟩
  replace h := Below.step h hb
  replace hx0 := hx0.kept hb
  clear hb k00 k01 l0
  obtain ⟨k00, k01⟩ := hx0.two
  have l0 := hx0.lt
  go_wp2_with fail
  go_ret2
  exact ⟨rfl, Below.step h (below_alloc1 _ _)⟩


set_option maxHeartbeats 1000000 in
set_option maxRecDepth 100000 in
theorem isPI_c {a b : Int} {p : Nat} (G : FG a b p) (hp : p ≤ 199) (R : Option Addr) (n c : Nat) (xs : List Int) (w : World) (hr : Rd w w.heap.size R n xs) (x y v : Int) (B : Bool) (key : ∀ W : World, Rd W W.heap.size R n xs → Calls Try.prog 55 #[.agg #[.int .i64 (rs p a : Int), .int .i64 (rs p b : Int), .int .i64 (p : Int)], .slice R n c] W (GivesPB W x y v B)) : Calls Try.prog 25 #[.agg #[.int .i64 a, .int .i64 b], .int .i64 (p : Int), .slice R n c] w (GivesBB w B true) := by
  have c1 := fun W => curveMod_yes a b p 199 W G hp
  rw [show ((199 : Nat) : Int) = 199 from rfl] at c1
  have c2 := fun W hR => key W hR
  have hrd : ∀ W, Below w.heap.size w W → Rd W W.heap.size R n xs := fun W hW => (hr.below hW).more hW.size
  replace c1 := Lib.hid c1
  replace c2 := Lib.hid c2
  replace hrd := Lib.hid hrd
  clear hr key G
  have h := Below.refl w.heap.size w
  have hA := below_alloc1 w (.cells #[.int .i64 a, .int .i64 b] 26)
  have hx0 := Box.new w 26 #[.int .i64 a, .int .i64 b]
  replace h := Below.step h hA
  clear hA
  obtain ⟨k00, k01⟩ := hx0.two
  have l0 := hx0.lt
  go_enter Try.func25, Try.ntmps25
  go_wp2_with fail
  refine (c1.out _).mono ?_
  rintro e w1 ⟨rfl, hb⟩
  replace h := Below.step h hb
  replace hx0 := hx0.kept hb
  clear hb k00 k01 l0
  obtain ⟨k00, k01⟩ := hx0.two
  have l0 := hx0.lt
  go_wp2_with fail
  have hA := below_alloc1 w1 (.cells #[.int .i64 (rs p a : Int), .int .i64 (rs p b : Int), .int .i64 (p : Int)] 62)
  have hxg := Box.new w1 62 #[.int .i64 (rs p a : Int), .int .i64 (rs p b : Int), .int .i64 (p : Int)]
  replace h := Below.step h hA
  replace hx0 := hx0.kept hA
  clear hA k00 k01 l0
  generalize w1.alloc (.cells #[.int .i64 (rs p a : Int), .int .i64 (rs p b : Int), .int .i64 (p : Int)] 62) = w2 at *
  generalize w1.heap.size = gg at hxg ⊢
  obtain ⟨k00, k01⟩ := hx0.two
  have l0 := hx0.lt
  obtain ⟨kg0, kg1, kg2⟩ := hxg.three
  have lg := hxg.lt
  refine (c2.out _ (hrd.out _ h)).mono ?_
  rintro e w3 ⟨rfl, hb⟩
  replace h := Below.step h hb
  replace hx0 := hx0.kept hb
  replace hxg := hxg.kept hb
  clear hb k00 k01 l0 kg0 kg1 kg2 lg
  obtain ⟨k00, k01⟩ := hx0.two
  have l0 := hx0.lt
  obtain ⟨kg0, kg1, kg2⟩ := hxg.three
  have lg := hxg.lt
  go_wp2_with fail
  go_ret2
  exact ⟨rfl, Below.step h (below_alloc1 _ _)⟩


set_option maxHeartbeats 1000000 in
set_option maxRecDepth 100000 in
theorem oppS_no (a b q : Int) (R : Option Addr) (n c : Nat) (w : World) (g : ¬ Gd a b q 199) : Calls Try.prog 27 #[.agg #[.int .i64 a, .int .i64 b], .int .i64 q, .slice R n c] w (GivesRowOk w [] false) := by
  have c1 := fun W => asked_no a b q R n c W g
  replace c1 := Lib.hid c1
  clear g
  have h := Below.refl w.heap.size w
  have hA := below_alloc1 w (.cells #[.int .i64 a, .int .i64 b] 26)
  have hx0 := Box.new w 26 #[.int .i64 a, .int .i64 b]
  replace h := Below.step h hA
  clear hA
  obtain ⟨k00, k01⟩ := hx0.two
  have l0 := hx0.lt
  go_enter Try.func27, Try.ntmps27
  go_wp2_with fail
  refine (c1.out _).mono ?_
  rintro e w1 ⟨rfl, hb⟩
  replace h := Below.step h hb
  replace hx0 := hx0.kept hb
  clear hb k00 k01 l0
  obtain ⟨k00, k01⟩ := hx0.two
  have l0 := hx0.lt
  go_wp2_with fail
  go_ret2
  exact ⟨none, 0, rfl, own_nil _ _, h⟩


set_option maxHeartbeats 1000000 in
set_option maxRecDepth 100000 in
theorem oppS_off {a b : Int} {p : Nat} (G : FG a b p) (hp : p ≤ 199) (R : Option Addr) (n c : Nat) (xs : List Int) (w : World) (hr : Rd w w.heap.size R n xs) (hno : ¬ OnL a b p xs) : Calls Try.prog 27 #[.agg #[.int .i64 a, .int .i64 b], .int .i64 (p : Int), .slice R n c] w (GivesRowOk w [] false) := by
  have c1 := fun W hR => asked_yes G hp R n c xs W hR false ⟨fun e => (by cases e), fun e => absurd e hno⟩
  have hrd : ∀ W, Below w.heap.size w W → Rd W W.heap.size R n xs := fun W hW => (hr.below hW).more hW.size
  replace c1 := Lib.hid c1
  replace hrd := Lib.hid hrd
  clear hr G hno
  have h := Below.refl w.heap.size w
  have hA := below_alloc1 w (.cells #[.int .i64 a, .int .i64 b] 26)
  have hx0 := Box.new w 26 #[.int .i64 a, .int .i64 b]
  replace h := Below.step h hA
  clear hA
  obtain ⟨k00, k01⟩ := hx0.two
  have l0 := hx0.lt
  go_enter Try.func27, Try.ntmps27
  go_wp2_with fail
  refine (c1.out _ (hrd.out _ h)).mono ?_
  rintro e w1 ⟨rfl, hb⟩
  replace h := Below.step h hb
  replace hx0 := hx0.kept hb
  clear hb k00 k01 l0
  obtain ⟨k00, k01⟩ := hx0.two
  have l0 := hx0.lt
  go_wp2_with fail
  go_ret2
  exact ⟨none, 0, rfl, own_nil _ _, h⟩


set_option maxHeartbeats 1000000 in
set_option maxRecDepth 100000 in
theorem timS_no (a b q : Int) (R : Option Addr) (n c : Nat) (w : World) (g : ¬ Gd a b q 199) (k : Int) : Calls Try.prog 33 #[.agg #[.int .i64 a, .int .i64 b], .int .i64 q, .int .i64 k, .slice R n c] w (GivesRowOk w [] false) := by
  have c1 := fun W => asked_no a b q R n c W g
  replace c1 := Lib.hid c1
  clear g
  have h := Below.refl w.heap.size w
  have hA := below_alloc1 w (.cells #[.int .i64 a, .int .i64 b] 26)
  have hx0 := Box.new w 26 #[.int .i64 a, .int .i64 b]
  replace h := Below.step h hA
  clear hA
  obtain ⟨k00, k01⟩ := hx0.two
  have l0 := hx0.lt
  go_enter Try.func33, Try.ntmps33
  go_wp2_with fail
  refine (c1.out _).mono ?_
  rintro e w1 ⟨rfl, hb⟩
  replace h := Below.step h hb
  replace hx0 := hx0.kept hb
  clear hb k00 k01 l0
  obtain ⟨k00, k01⟩ := hx0.two
  have l0 := hx0.lt
  go_wp2_with fail
  go_ret2
  exact ⟨none, 0, rfl, own_nil _ _, h⟩


set_option maxHeartbeats 1000000 in
set_option maxRecDepth 100000 in
theorem timS_off {a b : Int} {p : Nat} (G : FG a b p) (hp : p ≤ 199) (R : Option Addr) (n c : Nat) (xs : List Int) (w : World) (hr : Rd w w.heap.size R n xs) (hno : ¬ OnL a b p xs) (k : Int) : Calls Try.prog 33 #[.agg #[.int .i64 a, .int .i64 b], .int .i64 (p : Int), .int .i64 k, .slice R n c] w (GivesRowOk w [] false) := by
  have c1 := fun W hR => asked_yes G hp R n c xs W hR false ⟨fun e => (by cases e), fun e => absurd e hno⟩
  have hrd : ∀ W, Below w.heap.size w W → Rd W W.heap.size R n xs := fun W hW => (hr.below hW).more hW.size
  replace c1 := Lib.hid c1
  replace hrd := Lib.hid hrd
  clear hr G hno
  have h := Below.refl w.heap.size w
  have hA := below_alloc1 w (.cells #[.int .i64 a, .int .i64 b] 26)
  have hx0 := Box.new w 26 #[.int .i64 a, .int .i64 b]
  replace h := Below.step h hA
  clear hA
  obtain ⟨k00, k01⟩ := hx0.two
  have l0 := hx0.lt
  go_enter Try.func33, Try.ntmps33
  go_wp2_with fail
  refine (c1.out _ (hrd.out _ h)).mono ?_
  rintro e w1 ⟨rfl, hb⟩
  replace h := Below.step h hb
  replace hx0 := hx0.kept hb
  clear hb k00 k01 l0
  obtain ⟨k00, k01⟩ := hx0.two
  have l0 := hx0.lt
  go_wp2_with fail
  go_ret2
  exact ⟨none, 0, rfl, own_nil _ _, h⟩


set_option maxHeartbeats 1000000 in
set_option maxRecDepth 100000 in
theorem ordS_no (a b q : Int) (R : Option Addr) (n c : Nat) (w : World) (g : ¬ Gd a b q 199) : Calls Try.prog 35 #[.agg #[.int .i64 a, .int .i64 b], .int .i64 q, .slice R n c] w (GivesIB w 0 false) := by
  have c1 := fun W => asked_no a b q R n c W g
  replace c1 := Lib.hid c1
  clear g
  have h := Below.refl w.heap.size w
  have hA := below_alloc1 w (.cells #[.int .i64 a, .int .i64 b] 26)
  have hx0 := Box.new w 26 #[.int .i64 a, .int .i64 b]
  replace h := Below.step h hA
  clear hA
  obtain ⟨k00, k01⟩ := hx0.two
  have l0 := hx0.lt
  go_enter Try.func35, Try.ntmps35
  go_wp2_with fail
  refine (c1.out _).mono ?_
  rintro e w1 ⟨rfl, hb⟩
  replace h := Below.step h hb
  replace hx0 := hx0.kept hb
  clear hb k00 k01 l0
  obtain ⟨k00, k01⟩ := hx0.two
  have l0 := hx0.lt
  go_wp2_with fail
  go_ret2
  exact ⟨rfl, h⟩


set_option maxHeartbeats 1000000 in
set_option maxRecDepth 100000 in
theorem ordS_off {a b : Int} {p : Nat} (G : FG a b p) (hp : p ≤ 199) (R : Option Addr) (n c : Nat) (xs : List Int) (w : World) (hr : Rd w w.heap.size R n xs) (hno : ¬ OnL a b p xs) : Calls Try.prog 35 #[.agg #[.int .i64 a, .int .i64 b], .int .i64 (p : Int), .slice R n c] w (GivesIB w 0 false) := by
  have c1 := fun W hR => asked_yes G hp R n c xs W hR false ⟨fun e => (by cases e), fun e => absurd e hno⟩
  have hrd : ∀ W, Below w.heap.size w W → Rd W W.heap.size R n xs := fun W hW => (hr.below hW).more hW.size
  replace c1 := Lib.hid c1
  replace hrd := Lib.hid hrd
  clear hr G hno
  have h := Below.refl w.heap.size w
  have hA := below_alloc1 w (.cells #[.int .i64 a, .int .i64 b] 26)
  have hx0 := Box.new w 26 #[.int .i64 a, .int .i64 b]
  replace h := Below.step h hA
  clear hA
  obtain ⟨k00, k01⟩ := hx0.two
  have l0 := hx0.lt
  go_enter Try.func35, Try.ntmps35
  go_wp2_with fail
  refine (c1.out _ (hrd.out _ h)).mono ?_
  rintro e w1 ⟨rfl, hb⟩
  replace h := Below.step h hb
  replace hx0 := hx0.kept hb
  clear hb k00 k01 l0
  obtain ⟨k00, k01⟩ := hx0.two
  have l0 := hx0.lt
  go_wp2_with fail
  go_ret2
  exact ⟨rfl, h⟩


set_option maxHeartbeats 1000000 in
set_option maxRecDepth 100000 in
theorem oppS_yes {a b : Int} {p : Nat} (G : FG a b p) (hp : p ≤ 199) (R : Option Addr) (n c : Nat) (s : FP) (hs : FOn a b p s) (w : World) (hr : Rd w w.heap.size R n (fl s)) : Calls Try.prog 27 #[.agg #[.int .i64 a, .int .i64 b], .int .i64 (p : Int), .slice R n c] w (GivesRowOk w (fl (fneg p s)) true) := by
  have c1 := fun W hR => asked_yes G hp R n c (fl s) W hR true ⟨fun _ => ⟨s, rfl, hs⟩, fun _ => rfl⟩
  have hrd : ∀ W, Below w.heap.size w W → Rd W W.heap.size R n (fl s) := fun W hW => (hr.below hW).more hW.size
  have c2 := fun W hR => oppS_any G s hs R n c W hR
  replace c1 := Lib.hid c1
  replace c2 := Lib.hid c2
  replace hrd := Lib.hid hrd
  clear hr hs G
  have h := Below.refl w.heap.size w
  have hA := below_alloc1 w (.cells #[.int .i64 a, .int .i64 b] 26)
  have hx0 := Box.new w 26 #[.int .i64 a, .int .i64 b]
  replace h := Below.step h hA
  clear hA
  obtain ⟨k00, k01⟩ := hx0.two
  have l0 := hx0.lt
  go_enter Try.func27, Try.ntmps27
  go_wp2_with fail
  refine (c1.out _ (hrd.out _ h)).mono ?_
  rintro e w1 ⟨rfl, hb⟩
  replace h := Below.step h hb
  replace hx0 := hx0.kept hb
  clear hb k00 k01 l0
  obtain ⟨k00, k01⟩ := hx0.two
  have l0 := hx0.lt
  go_wp2_with fail
  have hsz := h.size
  refine (c2.out _ (hrd.out _ h)).mono ?_
  rintro e w2 ⟨A1, d1, rfl, ho1, hb⟩
  replace h := Below.step h hb
  replace hx0 := hx0.kept hb
  clear hb k00 k01 l0
  obtain ⟨k00, k01⟩ := hx0.two
  have l0 := hx0.lt
  go_wp2_with fail
  go_ret2
  exact ⟨A1, d1, rfl, ho1.le hsz, h⟩


set_option maxHeartbeats 1000000 in
set_option maxRecDepth 100000 in
theorem ordS_yes {a b : Int} {p : Nat} (G : FG a b p) (hp : p ≤ 199) (R : Option Addr) (n c : Nat) (s : FP) (hs : FOn a b p s) (w : World) (hr : Rd w w.heap.size R n (fl s)) (n0 : Nat) (hn : FOrd a p s n0) (hn2 : n0 ≤ 1000000) : Calls Try.prog 35 #[.agg #[.int .i64 a, .int .i64 b], .int .i64 (p : Int), .slice R n c] w (GivesIB w n0 true) := by
  have c1 := fun W hR => asked_yes G hp R n c (fl s) W hR true ⟨fun _ => ⟨s, rfl, hs⟩, fun _ => rfl⟩
  have hrd : ∀ W, Below w.heap.size w W → Rd W W.heap.size R n (fl s) := fun W hW => (hr.below hW).more hW.size
  have c2 := fun W hR => orderS_any G s hs n0 hn hn2 R n c W hR
  replace c1 := Lib.hid c1
  replace c2 := Lib.hid c2
  replace hrd := Lib.hid hrd
  clear hr hs G hn
  have h := Below.refl w.heap.size w
  have hA := below_alloc1 w (.cells #[.int .i64 a, .int .i64 b] 26)
  have hx0 := Box.new w 26 #[.int .i64 a, .int .i64 b]
  replace h := Below.step h hA
  clear hA
  obtain ⟨k00, k01⟩ := hx0.two
  have l0 := hx0.lt
  go_enter Try.func35, Try.ntmps35
  go_wp2_with fail
  refine (c1.out _ (hrd.out _ h)).mono ?_
  rintro e w1 ⟨rfl, hb⟩
  replace h := Below.step h hb
  replace hx0 := hx0.kept hb
  clear hb k00 k01 l0
  obtain ⟨k00, k01⟩ := hx0.two
  have l0 := hx0.lt
  go_wp2_with fail
  refine (c2.out _ (hrd.out _ h)).mono ?_
  rintro e w2 ⟨rfl, hb⟩
  replace h := Below.step h hb
  replace hx0 := hx0.kept hb
  clear hb k00 k01 l0
  obtain ⟨k00, k01⟩ := hx0.two
  have l0 := hx0.lt
  go_wp2_with fail
  go_ret2
  exact ⟨rfl, h⟩


set_option maxHeartbeats 1000000 in
set_option maxRecDepth 100000 in
theorem timS_far {a b : Int} {p : Nat} (G : FG a b p) (hp : p ≤ 199) (R : Option Addr) (n c : Nat) (s : FP) (hs : FOn a b p s) (w : World) (hr : Rd w w.heap.size R n (fl s)) (k : Int) (hk : k < -1000000000 ∨ 1000000000 < k) : Calls Try.prog 33 #[.agg #[.int .i64 a, .int .i64 b], .int .i64 (p : Int), .int .i64 k, .slice R n c] w (GivesRowOk w [] false) := by
  have c1 := fun W hR => asked_yes G hp R n c (fl s) W hR true ⟨fun _ => ⟨s, rfl, hs⟩, fun _ => rfl⟩
  have hrd : ∀ W, Below w.heap.size w W → Rd W W.heap.size R n (fl s) := fun W hW => (hr.below hW).more hW.size
  replace c1 := Lib.hid c1
  replace hrd := Lib.hid hrd
  replace hk := Lib.hid hk
  clear hr hs G
  have h := Below.refl w.heap.size w
  have hA := below_alloc1 w (.cells #[.int .i64 a, .int .i64 b] 26)
  have hx0 := Box.new w 26 #[.int .i64 a, .int .i64 b]
  replace h := Below.step h hA
  clear hA
  obtain ⟨k00, k01⟩ := hx0.two
  have l0 := hx0.lt
  go_enter Try.func33, Try.ntmps33
  go_wp2_with fail
  refine (c1.out _ (hrd.out _ h)).mono ?_
  rintro e w1 ⟨rfl, hb⟩
  replace h := Below.step h hb
  replace hx0 := hx0.kept hb
  clear hb k00 k01 l0
  obtain ⟨k00, k01⟩ := hx0.two
  have l0 := hx0.lt
  go_wp2_with fail
  refine (l1In_no k (-1000000000) 1000000000 _ hk.out).mono ?_
  rintro e w2 ⟨rfl, rfl⟩
  go_wp2_with fail
  go_ret2
  exact ⟨none, 0, rfl, own_nil _ _, h⟩


set_option maxHeartbeats 1000000 in
set_option maxRecDepth 100000 in
theorem timS_pos {a b : Int} {p : Nat} (G : FG a b p) (hp : p ≤ 199) (R : Option Addr) (n c : Nat) (s : FP) (hs : FOn a b p s) (w : World) (hr : Rd w w.heap.size R n (fl s)) (N : Nat) (hN : N ≤ 1000000000) : Calls Try.prog 33 #[.agg #[.int .i64 a, .int .i64 b], .int .i64 (p : Int), .int .i64 (N : Int), .slice R n c] w (GivesRowOk w (fl (fmul a p N s)) true) := by
  have c1 := fun W hR => asked_yes G hp R n c (fl s) W hR true ⟨fun _ => ⟨s, rfl, hs⟩, fun _ => rfl⟩
  have hrd : ∀ W, Below w.heap.size w W → Rd W W.heap.size R n (fl s) := fun W hW => (hr.below hW).more hW.size
  have c2 := fun W hR => timesS_any G N s hs hN R n c W hR
  replace c1 := Lib.hid c1
  replace c2 := Lib.hid c2
  replace hrd := Lib.hid hrd
  clear hr hs G
  have h := Below.refl w.heap.size w
  have hA := below_alloc1 w (.cells #[.int .i64 a, .int .i64 b] 26)
  have hx0 := Box.new w 26 #[.int .i64 a, .int .i64 b]
  replace h := Below.step h hA
  clear hA
  obtain ⟨k00, k01⟩ := hx0.two
  have l0 := hx0.lt
  go_enter Try.func33, Try.ntmps33
  go_wp2_with fail
  refine (c1.out _ (hrd.out _ h)).mono ?_
  rintro e w1 ⟨rfl, hb⟩
  replace h := Below.step h hb
  replace hx0 := hx0.kept hb
  clear hb k00 k01 l0
  obtain ⟨k00, k01⟩ := hx0.two
  have l0 := hx0.lt
  go_wp2_with fail
  refine (l1In_yes (N : Int) (-1000000000) 1000000000 _ (by omega) (by omega)).mono ?_
  rintro e w2 ⟨rfl, rfl⟩
  go_wp2_with fail
  have hsz := h.size
  refine (c2.out _ (hrd.out _ h)).mono ?_
  rintro e w3 ⟨A1, d1, rfl, ho1, hb⟩
  replace h := Below.step h hb
  replace hx0 := hx0.kept hb
  clear hb k00 k01 l0
  obtain ⟨k00, k01⟩ := hx0.two
  have l0 := hx0.lt
  go_wp2_with fail
  go_ret2
  exact ⟨A1, d1, rfl, ho1.le hsz, h⟩


set_option maxHeartbeats 1000000 in
set_option maxRecDepth 100000 in
theorem timS_neg {a b : Int} {p : Nat} (G : FG a b p) (hp : p ≤ 199) (R : Option Addr) (n c : Nat) (s : FP) (hs : FOn a b p s) (w : World) (hr : Rd w w.heap.size R n (fl s)) (N : Nat) (hN : N ≤ 1000000000) (k : Int) (hN1 : 1 ≤ N) (hkN : (N : Int) = -k) : Calls Try.prog 33 #[.agg #[.int .i64 a, .int .i64 b], .int .i64 (p : Int), .int .i64 k, .slice R n c] w (GivesRowOk w (fl (fmul a p N (fneg p s))) true) := by
  have c1 := fun W hR => asked_yes G hp R n c (fl s) W hR true ⟨fun _ => ⟨s, rfl, hs⟩, fun _ => rfl⟩
  have hrd : ∀ W, Below w.heap.size w W → Rd W W.heap.size R n (fl s) := fun W hW => (hr.below hW).more hW.size
  have c2 := fun W hR => oppS_any G s hs R n c W hR
  have hs2 := G.neg_on hs
  have c3 := fun (A1 : Option Addr) (d1 : Nat) W hR => timesS_any G N (fneg p s) hs2 hN A1 (fl (fneg p s)).length d1 W hR
  generalize fneg p s = y at *
  rw [hkN] at c3
  have hk0 : k < 0 := by omega
  have hk9 : -1000000000 ≤ k := by omega
  have ew : IntKind.i64.wrap (-k) = -k := IntWalk.i64_in _ (by omega)
  replace c1 := Lib.hid c1
  replace c2 := Lib.hid c2
  replace c3 := Lib.hid c3
  replace hrd := Lib.hid hrd
  clear hr hs hs2 G hkN
  have h := Below.refl w.heap.size w
  have hA := below_alloc1 w (.cells #[.int .i64 a, .int .i64 b] 26)
  have hx0 := Box.new w 26 #[.int .i64 a, .int .i64 b]
  replace h := Below.step h hA
  clear hA
  obtain ⟨k00, k01⟩ := hx0.two
  have l0 := hx0.lt
  go_enter Try.func33, Try.ntmps33
  go_wp2_with fail
  refine (c1.out _ (hrd.out _ h)).mono ?_
  rintro e w1 ⟨rfl, hb⟩
  replace h := Below.step h hb
  replace hx0 := hx0.kept hb
  clear hb k00 k01 l0
  obtain ⟨k00, k01⟩ := hx0.two
  have l0 := hx0.lt
  go_wp2_with fail
  refine (l1In_yes k (-1000000000) 1000000000 _ (by omega) (by omega)).mono ?_
  rintro e w2 ⟨rfl, rfl⟩
  go_wp2_with fail
  go_upto_region 4 with fail
  have KM : ∀ (W : World), Below w1.heap.size w1 W → (W.cell? ⟨w.heap.size, 0, none⟩ = some (.int .i64 a) ∧ W.cell? ⟨w.heap.size, 1, none⟩ = some (.int .i64 b) ∧ Below w1.heap.size w1 W) := fun W hW => ⟨(hx0.kept hW).two.1, (hx0.kept hW).two.2, hW⟩
  have KC : ∀ (W W' : World), Below W.heap.size W W' → (W.cell? ⟨w.heap.size, 0, none⟩ = some (.int .i64 a) ∧ W.cell? ⟨w.heap.size, 1, none⟩ = some (.int .i64 b) ∧ Below w1.heap.size w1 W) → (W'.cell? ⟨w.heap.size, 0, none⟩ = some (.int .i64 a) ∧ W'.cell? ⟨w.heap.size, 1, none⟩ = some (.int .i64 b) ∧ Below w1.heap.size w1 W') := fun W W' hb ⟨_, _, hW⟩ => KM _ (Below.step hW hb)
  have KD : ∀ (W : World), (W.cell? ⟨w.heap.size, 0, none⟩ = some (.int .i64 a) ∧ W.cell? ⟨w.heap.size, 1, none⟩ = some (.int .i64 b) ∧ Below w1.heap.size w1 W) → (W.drew.cell? ⟨w.heap.size, 0, none⟩ = some (.int .i64 a) ∧ W.drew.cell? ⟨w.heap.size, 1, none⟩ = some (.int .i64 b) ∧ Below w1.heap.size w1 W.drew) := fun W ⟨_, _, hW⟩ => KM _ (Below.drewN' hW 1)
  have KE : ∀ (W : World), (W.cell? ⟨w.heap.size, 0, none⟩ = some (.int .i64 a) ∧ W.cell? ⟨w.heap.size, 1, none⟩ = some (.int .i64 b) ∧ Below w1.heap.size w1 W) → Below w.heap.size w W := fun W ⟨_, _, hW⟩ => Below.step h hW
  have KB : ∀ (W : World), (W.cell? ⟨w.heap.size, 0, none⟩ = some (.int .i64 a) ∧ W.cell? ⟨w.heap.size, 1, none⟩ = some (.int .i64 b) ∧ Below w1.heap.size w1 W) → Below w1.heap.size w1 W := fun W ⟨_, _, hW⟩ => hW
  have KM0 := KM w1.drew ⟨rfl, rfl, rfl, Nat.le_refl _, fun _ _ => rfl⟩
  have KM00 := KM _ (Below.refl _ _)
  replace KC := Lib.hid KC
  replace KD := Lib.hid KD
  replace KE := Lib.hid KE
  replace KB := Lib.hid KB
  clear KM k00 k01 l0
  go_cut [8, 9] (fun s8 s9 wx => ∃ (A2 : Option Addr) (d2 : Nat), s8 = .slice A2 (fl (fmul a p N y)).length d2 ∧ s9 = .bool true ∧ Own wx w.heap.size (.slice A2 (fl (fmul a p N y)).length d2) (fl (fmul a p N y)) ∧ Below w1.heap.size w1 wx)
  case first =>
    go_region_held3 (fun w' => w'.cell? ⟨w.heap.size, 0, none⟩ = some (.int .i64 a) ∧ w'.cell? ⟨w.heap.size, 1, none⟩ = some (.int .i64 b) ∧ Below w1.heap.size w1 w') ((first | (with_reducible assumption) | ((with_reducible refine KD.out _ ?_); (with_reducible assumption)) | ((with_reducible refine KC.out _ _ ?_ ?_); (with_reducible assumption); (with_reducible assumption))))
      (first
        | (go_at_call 57; (with_reducible refine (c2.out _ ?_).mono ?_); (refine hrd.out _ (KE.out _ ?_); (with_reducible assumption)); rintro e wC0 ⟨A1, d1, rfl, ho1, hbC⟩; have hS0 : wC0.cell? ⟨w.heap.size, 0, none⟩ = some (.int .i64 a) ∧ wC0.cell? ⟨w.heap.size, 1, none⟩ = some (.int .i64 b) ∧ Below w1.heap.size w1 wC0 := KC.out _ _ hbC (by assumption); have hr1 := ho1.rd)
        | (go_at_call 63; (with_reducible refine (c3.out _ _ _ ?_).mono ?_); (first | (with_reducible exact hr1) | (exact hr1)); rintro e wC1 ⟨A2, d2, rfl, ho2, hbD⟩; have hS1 : wC1.cell? ⟨w.heap.size, 0, none⟩ = some (.int .i64 a) ∧ wC1.cell? ⟨w.heap.size, 1, none⟩ = some (.int .i64 b) ∧ Below w1.heap.size w1 wC1 := KC.out _ _ hbD (by assumption); replace ho2 := ho2.le (KE.out _ hS0).size))
    all_goals (go_wp2_with fail; go_meet)
    all_goals exact ⟨A2, d2, rfl, rfl, ho2, KB.out _ hS1⟩
  case rest =>
  obtain ⟨A2, d2, rfl, rfl, ho2, hb⟩ := hcut
  go_wp2_with fail
  go_ret2
  exact ⟨A2, d2, rfl, ho2, Below.step h hb⟩


set_option maxHeartbeats 1000000 in
set_option maxRecDepth 100000 in
theorem addM_no (a b q : Int) (R : Option Addr) (n c : Nat) (w : World) (g : ¬ Gd a b q 199) (S : Option Addr) (m d : Nat) : Calls Try.prog 31 #[.agg #[.int .i64 a, .int .i64 b], .int .i64 q, .slice R n c, .slice S m d] w (GivesRowOk w [] false) := by
  have c1 := fun W => asked_no a b q R n c W g
  replace c1 := Lib.hid c1
  clear g
  have h := Below.refl w.heap.size w
  have hA := below_alloc1 w (.cells #[.int .i64 a, .int .i64 b] 26)
  have hx0 := Box.new w 26 #[.int .i64 a, .int .i64 b]
  replace h := Below.step h hA
  clear hA
  obtain ⟨k00, k01⟩ := hx0.two
  have l0 := hx0.lt
  go_enter Try.func31, Try.ntmps31
  go_wp2_with fail
  refine (c1.out _).mono ?_
  rintro e w1 ⟨rfl, hb⟩
  replace h := Below.step h hb
  replace hx0 := hx0.kept hb
  clear hb k00 k01 l0
  obtain ⟨k00, k01⟩ := hx0.two
  have l0 := hx0.lt
  go_wp2_with fail
  go_ret2
  exact ⟨none, 0, rfl, own_nil _ _, h⟩


set_option maxHeartbeats 1000000 in
set_option maxRecDepth 100000 in
theorem addM_off1 {a b : Int} {p : Nat} (G : FG a b p) (hp : p ≤ 199) (R : Option Addr) (n c : Nat) (xs : List Int) (w : World) (hr : Rd w w.heap.size R n xs) (hno : ¬ OnL a b p xs) (S : Option Addr) (m d : Nat) : Calls Try.prog 31 #[.agg #[.int .i64 a, .int .i64 b], .int .i64 (p : Int), .slice R n c, .slice S m d] w (GivesRowOk w [] false) := by
  have c1 := fun W hR => asked_yes G hp R n c xs W hR false ⟨fun e => (by cases e), fun e => absurd e hno⟩
  have hrd : ∀ W, Below w.heap.size w W → Rd W W.heap.size R n xs := fun W hW => (hr.below hW).more hW.size
  replace c1 := Lib.hid c1
  replace hrd := Lib.hid hrd
  clear hr G hno
  have h := Below.refl w.heap.size w
  have hA := below_alloc1 w (.cells #[.int .i64 a, .int .i64 b] 26)
  have hx0 := Box.new w 26 #[.int .i64 a, .int .i64 b]
  replace h := Below.step h hA
  clear hA
  obtain ⟨k00, k01⟩ := hx0.two
  have l0 := hx0.lt
  go_enter Try.func31, Try.ntmps31
  go_wp2_with fail
  refine (c1.out _ (hrd.out _ h)).mono ?_
  rintro e w1 ⟨rfl, hb⟩
  replace h := Below.step h hb
  replace hx0 := hx0.kept hb
  clear hb k00 k01 l0
  obtain ⟨k00, k01⟩ := hx0.two
  have l0 := hx0.lt
  go_wp2_with fail
  go_ret2
  exact ⟨none, 0, rfl, own_nil _ _, h⟩


set_option maxHeartbeats 1000000 in
set_option maxRecDepth 100000 in
theorem addM_off2 {a b : Int} {p : Nat} (G : FG a b p) (hp : p ≤ 199) (R : Option Addr) (n c : Nat) (s : FP) (hs : FOn a b p s) (w : World) (hr : Rd w w.heap.size R n (fl s)) (S : Option Addr) (m d : Nat) (ys : List Int) (ht : Rd w w.heap.size S m ys) (hno : ¬ OnL a b p ys) : Calls Try.prog 31 #[.agg #[.int .i64 a, .int .i64 b], .int .i64 (p : Int), .slice R n c, .slice S m d] w (GivesRowOk w [] false) := by
  have c1 := fun W hR => asked_yes G hp R n c (fl s) W hR true ⟨fun _ => ⟨s, rfl, hs⟩, fun _ => rfl⟩
  have hrd : ∀ W, Below w.heap.size w W → Rd W W.heap.size R n (fl s) := fun W hW => (hr.below hW).more hW.size
  have c2 := fun W hR => fmOn_any G S m d ys W hR false ⟨fun e => (by cases e), fun e => absurd e hno⟩
  have hrt : ∀ W, Below w.heap.size w W → Rd W W.heap.size S m ys := fun W hW => (ht.below hW).more hW.size
  replace c1 := Lib.hid c1
  replace c2 := Lib.hid c2
  replace hrd := Lib.hid hrd
  replace hrt := Lib.hid hrt
  clear hr ht hs G hno
  have h := Below.refl w.heap.size w
  have hA := below_alloc1 w (.cells #[.int .i64 a, .int .i64 b] 26)
  have hx0 := Box.new w 26 #[.int .i64 a, .int .i64 b]
  replace h := Below.step h hA
  clear hA
  obtain ⟨k00, k01⟩ := hx0.two
  have l0 := hx0.lt
  go_enter Try.func31, Try.ntmps31
  go_wp2_with fail
  refine (c1.out _ (hrd.out _ h)).mono ?_
  rintro e w1 ⟨rfl, hb⟩
  replace h := Below.step h hb
  replace hx0 := hx0.kept hb
  clear hb k00 k01 l0
  obtain ⟨k00, k01⟩ := hx0.two
  have l0 := hx0.lt
  go_wp2_with fail
  refine (c2.out _ (hrt.out _ h)).mono ?_
  rintro e w2 ⟨rfl, hb⟩
  replace h := Below.step h hb
  replace hx0 := hx0.kept hb
  clear hb k00 k01 l0
  obtain ⟨k00, k01⟩ := hx0.two
  have l0 := hx0.lt
  go_wp2_with fail
  go_ret2
  exact ⟨none, 0, rfl, own_nil _ _, h⟩


set_option maxHeartbeats 1000000 in
set_option maxRecDepth 100000 in
theorem addM_yes {a b : Int} {p : Nat} (G : FG a b p) (hp : p ≤ 199) (R : Option Addr) (n c : Nat) (s : FP) (hs : FOn a b p s) (w : World) (hr : Rd w w.heap.size R n (fl s)) (S : Option Addr) (m d : Nat) (u : FP) (hu : FOn a b p u) (ht : Rd w w.heap.size S m (fl u)) : Calls Try.prog 31 #[.agg #[.int .i64 a, .int .i64 b], .int .i64 (p : Int), .slice R n c, .slice S m d] w (GivesRowOk w (fl (fadd a p s u)) true) := by
  have c1 := fun W hR => asked_yes G hp R n c (fl s) W hR true ⟨fun _ => ⟨s, rfl, hs⟩, fun _ => rfl⟩
  have hrd : ∀ W, Below w.heap.size w W → Rd W W.heap.size R n (fl s) := fun W hW => (hr.below hW).more hW.size
  have c2 := fun W hR => fmOn_any G S m d (fl u) W hR true ⟨fun _ => ⟨u, rfl, hu⟩, fun _ => rfl⟩
  have c3 := fun W hR hT => addS_any G s u hs hu R S n m c d W hR hT
  have hrt : ∀ W, Below w.heap.size w W → Rd W W.heap.size S m (fl u) := fun W hW => (ht.below hW).more hW.size
  replace c1 := Lib.hid c1
  replace c2 := Lib.hid c2
  replace c3 := Lib.hid c3
  replace hrd := Lib.hid hrd
  replace hrt := Lib.hid hrt
  clear hr ht hs hu G
  have h := Below.refl w.heap.size w
  have hA := below_alloc1 w (.cells #[.int .i64 a, .int .i64 b] 26)
  have hx0 := Box.new w 26 #[.int .i64 a, .int .i64 b]
  replace h := Below.step h hA
  clear hA
  obtain ⟨k00, k01⟩ := hx0.two
  have l0 := hx0.lt
  go_enter Try.func31, Try.ntmps31
  go_wp2_with fail
  refine (c1.out _ (hrd.out _ h)).mono ?_
  rintro e w1 ⟨rfl, hb⟩
  replace h := Below.step h hb
  replace hx0 := hx0.kept hb
  clear hb k00 k01 l0
  obtain ⟨k00, k01⟩ := hx0.two
  have l0 := hx0.lt
  go_wp2_with fail
  refine (c2.out _ (hrt.out _ h)).mono ?_
  rintro e w2 ⟨rfl, hb⟩
  replace h := Below.step h hb
  replace hx0 := hx0.kept hb
  clear hb k00 k01 l0
  obtain ⟨k00, k01⟩ := hx0.two
  have l0 := hx0.lt
  go_wp2_with fail
  have hsz := h.size
  refine (c3.out _ (hrd.out _ h) (hrt.out _ h)).mono ?_
  rintro e w3 ⟨A1, d1, rfl, ho1, hb⟩
  replace h := Below.step h hb
  replace hx0 := hx0.kept hb
  clear hb k00 k01 l0
  obtain ⟨k00, k01⟩ := hx0.two
  have l0 := hx0.lt
  go_wp2_with fail
  go_ret2
  exact ⟨A1, d1, rfl, ho1.le hsz, h⟩

end Go.Proofs.Ytbgoiflkpefckaa
