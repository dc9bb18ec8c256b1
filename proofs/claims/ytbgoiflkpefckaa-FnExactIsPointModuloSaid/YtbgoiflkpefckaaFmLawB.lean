/- Cores of exact laws with rows handed in (written by wip/gen/rlaw.py). -/
import Derived.Test.YtbgoiflkpefckaaEcLaw0
import Derived.Test.YtbgoiflkpefckaaFmToInts
import Derived.Test.YtbgoiflkpefckaaEq
import Derived.Test.YtbgoiflkpefckaaMark
import Derived.Test.YtbgoiflkpefckaaFmI7
import Derived.Deep.DeepCutAuto
namespace Go.Proofs.Ytbgoiflkpefckaa
open Go.RowKit Go.Joins

set_option maxHeartbeats 4000000 in
set_option maxRecDepth 100000 in
theorem lawIsPointModulo_core (a b : Int) (z0 : Int) (R0 : Option Addr) (n0 c0 : Nat) (xs0 : List Int) (w : World) (hn0 : n0 ≤ 1048576) (hr0 : Rd w w.heap.size R0 n0 xs0) (B ok : Bool)
    (hS : ∀ (W : World) (A0 : Option Addr) (d0 : Nat), Rd W W.heap.size A0 xs0.length xs0 → Calls Try.prog 23 #[.agg #[.int .i64 a, .int .i64 b], .int .i64 z0, .slice A0 xs0.length d0] W (GivesBB W B ok))
    (hI : ∀ (W : World) (A0 : Option Addr) (d0 : Nat), Rd W W.heap.size A0 xs0.length xs0 → Calls Try.prog 25 #[.agg #[.int .i64 a, .int .i64 b], .int .i64 z0, .slice A0 xs0.length d0] W (GivesBB W B ok)) :
    Calls Try.prog 6 #[.agg #[.int .i64 a, .int .i64 b], .int .i64 z0, .slice R0 n0 c0] w fun e w' => e = .returned (.bool true) ∧ Below w.heap.size w w' := by
  replace hS := Lib.hid hS
  replace hI := Lib.hid hI
  have hl0 := hr0.1
  have hm0 : xs0.length ≤ 1048576 := by omega
  have hsz0 : ¬ (n0 : Int) > 1048576 := by omega
  have hrd0 : ∀ W, Below w.heap.size w W → Rd W W.heap.size R0 n0 xs0 := fun W hW => (hr0.below hW).more hW.size
  replace hl0 := Lib.hid hl0
  replace hrd0 := Lib.hid hrd0
  clear hr0
  have eB : (B != B) = false := by simp
  have eok : (ok != ok) = false := by simp
  have h := Below.refl w.heap.size w
  have hA := below_alloc1 w (.cells #[.int .i64 a, .int .i64 b] 23)
  have hxa := Box.new w 23 #[.int .i64 a, .int .i64 b]
  replace h := Below.step h hA
  clear hA
  obtain ⟨ka0, ka1⟩ := hxa.two
  have la := hxa.lt
  go_enter Try.func6, Try.ntmps6
  go_wp2_with fail
  refine (toCurve_any a b _).mono ?_
  rintro e w1 ⟨rfl, hb⟩
  replace h := Below.step h hb
  replace hxa := hxa.kept hb
  clear hb ka0 ka1 la
  obtain ⟨ka0, ka1⟩ := hxa.two
  have la := hxa.lt
  go_wp2_with fail
  have lo_ts0 := h.size
  refine (toIntS_any R0 n0 c0 xs0 _ hn0 (hrd0.out _ h)).mono ?_
  rintro e w2 ⟨X_ts0, x_ts0, rfl, ts0, hb⟩
  replace h := Below.step h hb
  replace hxa := hxa.kept hb
  clear hb ka0 ka1 la
  obtain ⟨ka0, ka1⟩ := hxa.two
  have la := hxa.lt
  replace ts0 := ts0.I
  go_wp2_with fail
  refine (hS.out _ _ _ ts0.rd).mono ?_
  rintro e w3 ⟨rfl, hb⟩
  replace h := Below.step h hb
  replace hxa := hxa.kept hb
  replace ts0 := ts0.kept hb
  clear hb ka0 ka1 la
  obtain ⟨ka0, ka1⟩ := hxa.two
  have la := hxa.lt
  go_wp2_with fail
  clear ts0
  have lo_x0 := h.size
  refine (toIntS_any R0 n0 c0 xs0 _ hn0 (hrd0.out _ h)).mono ?_
  rintro e w4 ⟨X_x0, x_x0, rfl, x0, hb⟩
  replace h := Below.step h hb
  replace hxa := hxa.kept hb
  clear hb ka0 ka1 la
  obtain ⟨ka0, ka1⟩ := hxa.two
  have la := hxa.lt
  replace x0 := x0.I
  go_wp2_with fail
  refine (toCurve_any a b _).mono ?_
  rintro e w5 ⟨rfl, hb⟩
  replace h := Below.step h hb
  replace hxa := hxa.kept hb
  replace x0 := x0.kept hb
  clear hb ka0 ka1 la
  obtain ⟨ka0, ka1⟩ := hxa.two
  have la := hxa.lt
  go_wp2_with fail
  refine (hI.out _ _ _ x0.rd).mono ?_
  rintro e w6 ⟨rfl, hb⟩
  replace h := Below.step h hb
  replace hxa := hxa.kept hb
  replace x0 := x0.kept hb
  clear hb ka0 ka1 la
  obtain ⟨ka0, ka1⟩ := hxa.two
  have la := hxa.lt
  go_wp2_with fail
  have d_x0_u0 := x0.le
  have lo_u0 := h.size
  refine (toIntS_any R0 n0 c0 xs0 _ hn0 (hrd0.out _ h)).mono ?_
  rintro e w7 ⟨X_u0, x_u0, rfl, u0, hb⟩
  replace h := Below.step h hb
  replace hxa := hxa.kept hb
  replace x0 := x0.kept hb
  clear hb ka0 ka1 la
  obtain ⟨ka0, ka1⟩ := hxa.two
  have la := hxa.lt
  replace u0 := u0.I
  go_wp2_with fail
  refine (eqIntS_yes X_x0 X_u0 _ x_x0 _ x_u0 xs0 _ (by omega) x0.rd u0.rd).mono ?_
  rintro e w8 ⟨rfl, hb⟩
  replace h := Below.step h hb
  replace hxa := hxa.kept hb
  replace x0 := x0.kept hb
  replace u0 := u0.kept hb
  clear hb ka0 ka1 la
  obtain ⟨ka0, ka1⟩ := hxa.two
  have la := hxa.lt
  go_wp2_with fail
  clear u0
  go_ret
  exact ⟨rfl, h⟩

set_option maxHeartbeats 400000 in
set_option maxRecDepth 100000 in
theorem lawIsPointModulo_long0 (a b : Int) (z0 : Int) (R0 : Option Addr) (n0 c0 : Nat) (w : World) (hn0 : ¬ n0 ≤ 1048576) :
    Calls Try.prog 6 #[.agg #[.int .i64 a, .int .i64 b], .int .i64 z0, .slice R0 n0 c0] w fun e w' => e = .returned (.bool true) ∧ Below w.heap.size w w' := by
  have hsz0 : (n0 : Int) > 1048576 := by omega
  have h := Below.refl w.heap.size w
  have hA := below_alloc1 w (.cells #[.int .i64 a, .int .i64 b] 23)
  have hxa := Box.new w 23 #[.int .i64 a, .int .i64 b]
  replace h := Below.step h hA
  clear hA
  obtain ⟨ka0, ka1⟩ := hxa.two
  have la := hxa.lt
  go_enter Try.func6, Try.ntmps6
  go_wp2_with fail
  go_ret
  exact ⟨rfl, h⟩

set_option maxHeartbeats 4000000 in
set_option maxRecDepth 100000 in
theorem lawOrderModulo_core (a b : Int) (z0 : Int) (R0 : Option Addr) (n0 c0 : Nat) (xs0 : List Int) (w : World) (hn0 : n0 ≤ 1048576) (hr0 : Rd w w.heap.size R0 n0 xs0) (ri : Int) (ok : Bool)
    (hS : ∀ (W : World) (A0 : Option Addr) (d0 : Nat), Rd W W.heap.size A0 xs0.length xs0 → Calls Try.prog 35 #[.agg #[.int .i64 a, .int .i64 b], .int .i64 z0, .slice A0 xs0.length d0] W (GivesIB W ri ok))
    (hI : ∀ (W : World) (A0 : Option Addr) (d0 : Nat), Rd W W.heap.size A0 xs0.length xs0 → Calls Try.prog 36 #[.agg #[.int .i64 a, .int .i64 b], .int .i64 z0, .slice A0 xs0.length d0] W (GivesIB W ri ok)) :
    Calls Try.prog 10 #[.agg #[.int .i64 a, .int .i64 b], .int .i64 z0, .slice R0 n0 c0] w fun e w' => e = .returned (.bool true) ∧ Below w.heap.size w w' := by
  replace hS := Lib.hid hS
  replace hI := Lib.hid hI
  have hl0 := hr0.1
  have hm0 : xs0.length ≤ 1048576 := by omega
  have hsz0 : ¬ (n0 : Int) > 1048576 := by omega
  have hrd0 : ∀ W, Below w.heap.size w W → Rd W W.heap.size R0 n0 xs0 := fun W hW => (hr0.below hW).more hW.size
  replace hl0 := Lib.hid hl0
  replace hrd0 := Lib.hid hrd0
  clear hr0
  have eri : (ri != ri) = false := by simp
  have eok : (ok != ok) = false := by simp
  have h := Below.refl w.heap.size w
  have hA := below_alloc1 w (.cells #[.int .i64 a, .int .i64 b] 23)
  have hxa := Box.new w 23 #[.int .i64 a, .int .i64 b]
  replace h := Below.step h hA
  clear hA
  obtain ⟨ka0, ka1⟩ := hxa.two
  have la := hxa.lt
  go_enter Try.func10, Try.ntmps10
  go_wp2_with fail
  refine (toCurve_any a b _).mono ?_
  rintro e w1 ⟨rfl, hb⟩
  replace h := Below.step h hb
  replace hxa := hxa.kept hb
  clear hb ka0 ka1 la
  obtain ⟨ka0, ka1⟩ := hxa.two
  have la := hxa.lt
  go_wp2_with fail
  have lo_ts0 := h.size
  refine (toIntS_any R0 n0 c0 xs0 _ hn0 (hrd0.out _ h)).mono ?_
  rintro e w2 ⟨X_ts0, x_ts0, rfl, ts0, hb⟩
  replace h := Below.step h hb
  replace hxa := hxa.kept hb
  clear hb ka0 ka1 la
  obtain ⟨ka0, ka1⟩ := hxa.two
  have la := hxa.lt
  replace ts0 := ts0.I
  go_wp2_with fail
  refine (hS.out _ _ _ ts0.rd).mono ?_
  rintro e w3 ⟨rfl, hb⟩
  replace h := Below.step h hb
  replace hxa := hxa.kept hb
  replace ts0 := ts0.kept hb
  clear hb ka0 ka1 la
  obtain ⟨ka0, ka1⟩ := hxa.two
  have la := hxa.lt
  go_wp2_with fail
  clear ts0
  have lo_x0 := h.size
  refine (toIntS_any R0 n0 c0 xs0 _ hn0 (hrd0.out _ h)).mono ?_
  rintro e w4 ⟨X_x0, x_x0, rfl, x0, hb⟩
  replace h := Below.step h hb
  replace hxa := hxa.kept hb
  clear hb ka0 ka1 la
  obtain ⟨ka0, ka1⟩ := hxa.two
  have la := hxa.lt
  replace x0 := x0.I
  go_wp2_with fail
  refine (toCurve_any a b _).mono ?_
  rintro e w5 ⟨rfl, hb⟩
  replace h := Below.step h hb
  replace hxa := hxa.kept hb
  replace x0 := x0.kept hb
  clear hb ka0 ka1 la
  obtain ⟨ka0, ka1⟩ := hxa.two
  have la := hxa.lt
  go_wp2_with fail
  refine (hI.out _ _ _ x0.rd).mono ?_
  rintro e w6 ⟨rfl, hb⟩
  replace h := Below.step h hb
  replace hxa := hxa.kept hb
  replace x0 := x0.kept hb
  clear hb ka0 ka1 la
  obtain ⟨ka0, ka1⟩ := hxa.two
  have la := hxa.lt
  go_wp2_with fail
  have d_x0_u0 := x0.le
  have lo_u0 := h.size
  refine (toIntS_any R0 n0 c0 xs0 _ hn0 (hrd0.out _ h)).mono ?_
  rintro e w7 ⟨X_u0, x_u0, rfl, u0, hb⟩
  replace h := Below.step h hb
  replace hxa := hxa.kept hb
  replace x0 := x0.kept hb
  clear hb ka0 ka1 la
  obtain ⟨ka0, ka1⟩ := hxa.two
  have la := hxa.lt
  replace u0 := u0.I
  go_wp2_with fail
  refine (eqIntS_yes X_x0 X_u0 _ x_x0 _ x_u0 xs0 _ (by omega) x0.rd u0.rd).mono ?_
  rintro e w8 ⟨rfl, hb⟩
  replace h := Below.step h hb
  replace hxa := hxa.kept hb
  replace x0 := x0.kept hb
  replace u0 := u0.kept hb
  clear hb ka0 ka1 la
  obtain ⟨ka0, ka1⟩ := hxa.two
  have la := hxa.lt
  go_wp2_with fail
  clear u0
  go_ret
  exact ⟨rfl, h⟩

set_option maxHeartbeats 400000 in
set_option maxRecDepth 100000 in
theorem lawOrderModulo_long0 (a b : Int) (z0 : Int) (R0 : Option Addr) (n0 c0 : Nat) (w : World) (hn0 : ¬ n0 ≤ 1048576) :
    Calls Try.prog 10 #[.agg #[.int .i64 a, .int .i64 b], .int .i64 z0, .slice R0 n0 c0] w fun e w' => e = .returned (.bool true) ∧ Below w.heap.size w w' := by
  have hsz0 : (n0 : Int) > 1048576 := by omega
  have h := Below.refl w.heap.size w
  have hA := below_alloc1 w (.cells #[.int .i64 a, .int .i64 b] 23)
  have hxa := Box.new w 23 #[.int .i64 a, .int .i64 b]
  replace h := Below.step h hA
  clear hA
  obtain ⟨ka0, ka1⟩ := hxa.two
  have la := hxa.lt
  go_enter Try.func10, Try.ntmps10
  go_wp2_with fail
  go_ret
  exact ⟨rfl, h⟩
end Go.Proofs.Ytbgoiflkpefckaa
