/- Cores of exact laws with rows handed in (written by wip/gen/rlaw.py). -/
import Derived.Test.YtbgoiflkpefckaaEcLaw0
import Derived.Test.YtbgoiflkpefckaaFmToInts
import Derived.Test.YtbgoiflkpefckaaEq
import Derived.Test.YtbgoiflkpefckaaMark
import Derived.Test.YtbgoiflkpefckaaFmI7
import Derived.Deep.DeepCutAuto
namespace Go.Proofs.Ytbgoiflkpefckaa
open Go.RowKit Go.Joins

set_option maxHeartbeats 4000000 in
set_option maxRecDepth 100000 in
theorem lawOppositeModulo_core (a b : Int) (z0 : Int) (R0 : Option Addr) (n0 c0 : Nat) (xs0 : List Int) (w : World) (hn0 : n0 ≤ 1048576) (hr0 : Rd w w.heap.size R0 n0 xs0) (rs : List Int) (hrs : rs.length ≤ 1048576) (ok : Bool)
    (hS : ∀ (W : World) (A0 : Option Addr) (d0 : Nat), Rd W W.heap.size A0 xs0.length xs0 → Calls Try.prog 27 #[.agg #[.int .i64 a, .int .i64 b], .int .i64 z0, .slice A0 xs0.length d0] W (GivesRowOk W rs ok))
    (hI : ∀ (W : World) (A0 : Option Addr) (d0 : Nat), Rd W W.heap.size A0 xs0.length xs0 → Calls Try.prog 28 #[.agg #[.int .i64 a, .int .i64 b], .int .i64 z0, .slice A0 xs0.length d0] W (GivesRowOk W rs ok)) :
    Calls Try.prog 7 #[.agg #[.int .i64 a, .int .i64 b], .int .i64 z0, .slice R0 n0 c0] w fun e w' => e = .returned (.bool true) ∧ Below w.heap.size w w' := by
  replace hS := Lib.hid hS
  replace hI := Lib.hid hI
  have hl0 := hr0.1
  have hm0 : xs0.length ≤ 1048576 := by omega
  have hsz0 : ¬ (n0 : Int) > 1048576 := by omega
  have hrd0 : ∀ W, Below w.heap.size w W → Rd W W.heap.size R0 n0 xs0 := fun W hW => (hr0.below hW).more hW.size
  replace hl0 := Lib.hid hl0
  replace hrd0 := Lib.hid hrd0
  clear hr0
  have eok : (ok != ok) = false := by simp
  have e2 : (1 + (rs.length : Int) != 1 + rs.length) = false := by simp
  have h := Below.refl w.heap.size w
  have hA := below_alloc1 w (.cells #[.int .i64 a, .int .i64 b] 23)
  have hxa := Box.new w 23 #[.int .i64 a, .int .i64 b]
  replace h := Below.step h hA
  clear hA
  obtain ⟨ka0, ka1⟩ := hxa.two
  have la := hxa.lt
  go_enter Try.func7, Try.ntmps7
  go_wp2_with fail
  refine (toCurve_any a b _).mono ?_
  rintro e w1 ⟨rfl, hb⟩
  replace h := Below.step h hb
  replace hxa := hxa.kept hb
  clear hb ka0 ka1 la
  obtain ⟨ka0, ka1⟩ := hxa.two
  have la := hxa.lt
  go_wp2_with fail
  have lo_ts0 := h.size
  refine (toIntS_any R0 n0 c0 xs0 _ hn0 (hrd0.out _ h)).mono ?_
  rintro e w2 ⟨X_ts0, x_ts0, rfl, ts0, hb⟩
  replace h := Below.step h hb
  replace hxa := hxa.kept hb
  clear hb ka0 ka1 la
  obtain ⟨ka0, ka1⟩ := hxa.two
  have la := hxa.lt
  replace ts0 := ts0.I
  go_wp2_with fail
  have d_ts0_v := ts0.le
  have lo_v := h.size
  refine (hS.out _ _ _ ts0.rd).mono ?_
  rintro e w3 ⟨X_v, x_v, rfl, v, hb⟩
  replace h := Below.step h hb
  replace hxa := hxa.kept hb
  replace ts0 := ts0.kept hb
  clear hb ka0 ka1 la
  obtain ⟨ka0, ka1⟩ := hxa.two
  have la := hxa.lt
  replace v := v.I
  go_wp2_with fail
  clear ts0
  have d_v_x0 := v.le
  have lo_x0 := h.size
  refine (toIntS_any R0 n0 c0 xs0 _ hn0 (hrd0.out _ h)).mono ?_
  rintro e w4 ⟨X_x0, x_x0, rfl, x0, hb⟩
  replace h := Below.step h hb
  replace hxa := hxa.kept hb
  replace v := v.kept hb
  clear hb ka0 ka1 la
  obtain ⟨ka0, ka1⟩ := hxa.two
  have la := hxa.lt
  replace x0 := x0.I
  go_wp2_with fail
  refine (toCurve_any a b _).mono ?_
  rintro e w5 ⟨rfl, hb⟩
  replace h := Below.step h hb
  replace hxa := hxa.kept hb
  replace v := v.kept hb
  replace x0 := x0.kept hb
  clear hb ka0 ka1 la
  obtain ⟨ka0, ka1⟩ := hxa.two
  have la := hxa.lt
  go_wp2_with fail
  have d_v_g := v.le
  have d_x0_g := x0.le
  have lo_g := h.size
  refine (hI.out _ _ _ x0.rd).mono ?_
  rintro e w6 ⟨X_g, x_g, rfl, g, hb⟩
  replace h := Below.step h hb
  replace hxa := hxa.kept hb
  replace v := v.kept hb
  replace x0 := x0.kept hb
  clear hb ka0 ka1 la
  obtain ⟨ka0, ka1⟩ := hxa.two
  have la := hxa.lt
  replace g := g.I
  go_wp2_with fail
  refine (eqIntS_yes X_g X_v _ x_g _ x_v rs _ (by omega) g.rd v.rd).mono ?_
  rintro e w7 ⟨rfl, hb⟩
  replace h := Below.step h hb
  replace hxa := hxa.kept hb
  replace v := v.kept hb
  replace x0 := x0.kept hb
  replace g := g.kept hb
  clear hb ka0 ka1 la
  obtain ⟨ka0, ka1⟩ := hxa.two
  have la := hxa.lt
  go_wp2_with fail
  have d_v_u0 := v.le
  have d_x0_u0 := x0.le
  have d_g_u0 := g.le
  have lo_u0 := h.size
  refine (toIntS_any R0 n0 c0 xs0 _ hn0 (hrd0.out _ h)).mono ?_
  rintro e w8 ⟨X_u0, x_u0, rfl, u0, hb⟩
  replace h := Below.step h hb
  replace hxa := hxa.kept hb
  replace v := v.kept hb
  replace x0 := x0.kept hb
  replace g := g.kept hb
  clear hb ka0 ka1 la
  obtain ⟨ka0, ka1⟩ := hxa.two
  have la := hxa.lt
  replace u0 := u0.I
  go_wp2_with fail
  refine (eqIntS_yes X_x0 X_u0 _ x_x0 _ x_u0 xs0 _ (by omega) x0.rd u0.rd).mono ?_
  rintro e w9 ⟨rfl, hb⟩
  replace h := Below.step h hb
  replace hxa := hxa.kept hb
  replace v := v.kept hb
  replace x0 := x0.kept hb
  replace g := g.kept hb
  replace u0 := u0.kept hb
  clear hb ka0 ka1 la
  obtain ⟨ka0, ka1⟩ := hxa.two
  have la := hxa.lt
  go_wp2_with fail
  clear u0
  refine (markIntS_any X_x0 x_x0 _ xs0 1 _ (by omega) (by omega) x0.own).mono ?_
  rintro e w10 ⟨rfl, hm, hg⟩
  replace h := x0.below hg h lo_x0
  replace v := v.aside x0 hg (.inl d_v_x0)
  replace g := g.aside x0 hg (.inr d_x0_g)
  replace hxa := hxa.aside x0 hg (by decide)
  clear hm hg x0 ka0 ka1 la
  obtain ⟨ka0, ka1⟩ := hxa.two
  have la := hxa.lt
  go_wp2_with fail
  refine (eqIntS_yes X_g X_v _ x_g _ x_v rs _ (by omega) g.rd v.rd).mono ?_
  rintro e w11 ⟨rfl, hb⟩
  replace h := Below.step h hb
  replace hxa := hxa.kept hb
  replace v := v.kept hb
  replace g := g.kept hb
  clear hb ka0 ka1 la
  obtain ⟨ka0, ka1⟩ := hxa.two
  have la := hxa.lt
  go_wp2_with fail
  refine (markIntS_any X_g x_g _ rs 1 _ (by omega) (by omega) g.own).mono ?_
  rintro e w12 ⟨rfl, hm, hg⟩
  replace h := g.below hg h lo_g
  replace v := v.aside g hg (.inl d_v_g)
  replace hxa := hxa.aside g hg (by decide)
  have hmk := hm.rd_marks
  clear hm hg g ka0 ka1 la
  obtain ⟨ka0, ka1⟩ := hxa.two
  have la := hxa.lt
  go_wp2_with fail
  refine (heldIntS_any X_g rs.length x_g _ 1 _ (by omega) (by omega) hmk).mono ?_
  rintro e w13 ⟨rfl, rfl⟩
  go_wp2_with fail
  refine (toCurve_any a b _).mono ?_
  rintro e w14 ⟨rfl, hb⟩
  replace h := Below.step h hb
  replace hxa := hxa.kept hb
  replace v := v.kept hb
  replace hmk := hmk.kept hb
  clear hb ka0 ka1 la
  obtain ⟨ka0, ka1⟩ := hxa.two
  have la := hxa.lt
  go_wp2_with fail
  have d_v_th0 := v.le
  have lo_th0 := h.size
  refine (toIntS_any R0 n0 c0 xs0 _ hn0 (hrd0.out _ h)).mono ?_
  rintro e w15 ⟨X_th0, x_th0, rfl, th0, hb⟩
  replace h := Below.step h hb
  replace hxa := hxa.kept hb
  replace v := v.kept hb
  replace hmk := hmk.kept hb
  clear hb ka0 ka1 la
  obtain ⟨ka0, ka1⟩ := hxa.two
  have la := hxa.lt
  replace th0 := th0.I
  go_wp2_with fail
  have d_v_hh := v.le
  have d_th0_hh := th0.le
  have lo_hh := h.size
  refine (hI.out _ _ _ th0.rd).mono ?_
  rintro e w16 ⟨X_hh, x_hh, rfl, hh, hb⟩
  replace h := Below.step h hb
  replace hxa := hxa.kept hb
  replace v := v.kept hb
  replace hmk := hmk.kept hb
  replace th0 := th0.kept hb
  clear hb ka0 ka1 la
  obtain ⟨ka0, ka1⟩ := hxa.two
  have la := hxa.lt
  replace hh := hh.I
  go_wp2_with fail
  clear th0
  refine (eqIntS_yes X_hh X_v _ x_hh _ x_v rs _ (by omega) hh.rd v.rd).mono ?_
  rintro e w17 ⟨rfl, hb⟩
  replace h := Below.step h hb
  replace hxa := hxa.kept hb
  replace v := v.kept hb
  replace hmk := hmk.kept hb
  replace hh := hh.kept hb
  clear hb ka0 ka1 la
  obtain ⟨ka0, ka1⟩ := hxa.two
  have la := hxa.lt
  go_wp2_with fail
  refine (heldIntS_any X_g rs.length x_g _ 1 _ (by omega) (by omega) hmk).mono ?_
  rintro e w18 ⟨rfl, rfl⟩
  go_wp2_with fail
  go_ret
  exact ⟨rfl, h⟩

set_option maxHeartbeats 400000 in
set_option maxRecDepth 100000 in
theorem lawOppositeModulo_long0 (a b : Int) (z0 : Int) (R0 : Option Addr) (n0 c0 : Nat) (w : World) (hn0 : ¬ n0 ≤ 1048576) :
    Calls Try.prog 7 #[.agg #[.int .i64 a, .int .i64 b], .int .i64 z0, .slice R0 n0 c0] w fun e w' => e = .returned (.bool true) ∧ Below w.heap.size w w' := by
  have hsz0 : (n0 : Int) > 1048576 := by omega
  have h := Below.refl w.heap.size w
  have hA := below_alloc1 w (.cells #[.int .i64 a, .int .i64 b] 23)
  have hxa := Box.new w 23 #[.int .i64 a, .int .i64 b]
  replace h := Below.step h hA
  clear hA
  obtain ⟨ka0, ka1⟩ := hxa.two
  have la := hxa.lt
  go_enter Try.func7, Try.ntmps7
  go_wp2_with fail
  go_ret
  exact ⟨rfl, h⟩

set_option maxHeartbeats 4000000 in
set_option maxRecDepth 100000 in
theorem lawTimesModulo_core (a b : Int) (z0 : Int) (z1 : Int) (R0 : Option Addr) (n0 c0 : Nat) (xs0 : List Int) (w : World) (hn0 : n0 ≤ 1048576) (hr0 : Rd w w.heap.size R0 n0 xs0) (rs : List Int) (hrs : rs.length ≤ 1048576) (ok : Bool)
    (hS : ∀ (W : World) (A0 : Option Addr) (d0 : Nat), Rd W W.heap.size A0 xs0.length xs0 → Calls Try.prog 33 #[.agg #[.int .i64 a, .int .i64 b], .int .i64 z0, .int .i64 z1, .slice A0 xs0.length d0] W (GivesRowOk W rs ok))
    (hI : ∀ (W : World) (A0 : Option Addr) (d0 : Nat), Rd W W.heap.size A0 xs0.length xs0 → Calls Try.prog 34 #[.agg #[.int .i64 a, .int .i64 b], .int .i64 z0, .int .i64 z1, .slice A0 xs0.length d0] W (GivesRowOk W rs ok)) :
    Calls Try.prog 9 #[.agg #[.int .i64 a, .int .i64 b], .int .i64 z0, .int .i64 z1, .slice R0 n0 c0] w fun e w' => e = .returned (.bool true) ∧ Below w.heap.size w w' := by
  replace hS := Lib.hid hS
  replace hI := Lib.hid hI
  have hl0 := hr0.1
  have hm0 : xs0.length ≤ 1048576 := by omega
  have hsz0 : ¬ (n0 : Int) > 1048576 := by omega
  have hrd0 : ∀ W, Below w.heap.size w W → Rd W W.heap.size R0 n0 xs0 := fun W hW => (hr0.below hW).more hW.size
  replace hl0 := Lib.hid hl0
  replace hrd0 := Lib.hid hrd0
  clear hr0
  have eok : (ok != ok) = false := by simp
  have e2 : (1 + (rs.length : Int) != 1 + rs.length) = false := by simp
  have h := Below.refl w.heap.size w
  have hA := below_alloc1 w (.cells #[.int .i64 a, .int .i64 b] 23)
  have hxa := Box.new w 23 #[.int .i64 a, .int .i64 b]
  replace h := Below.step h hA
  clear hA
  obtain ⟨ka0, ka1⟩ := hxa.two
  have la := hxa.lt
  go_enter Try.func9, Try.ntmps9
  go_wp2_with fail
  refine (toCurve_any a b _).mono ?_
  rintro e w1 ⟨rfl, hb⟩
  replace h := Below.step h hb
  replace hxa := hxa.kept hb
  clear hb ka0 ka1 la
  obtain ⟨ka0, ka1⟩ := hxa.two
  have la := hxa.lt
  go_wp2_with fail
  have lo_ts0 := h.size
  refine (toIntS_any R0 n0 c0 xs0 _ hn0 (hrd0.out _ h)).mono ?_
  rintro e w2 ⟨X_ts0, x_ts0, rfl, ts0, hb⟩
  replace h := Below.step h hb
  replace hxa := hxa.kept hb
  clear hb ka0 ka1 la
  obtain ⟨ka0, ka1⟩ := hxa.two
  have la := hxa.lt
  replace ts0 := ts0.I
  go_wp2_with fail
  have d_ts0_v := ts0.le
  have lo_v := h.size
  refine (hS.out _ _ _ ts0.rd).mono ?_
  rintro e w3 ⟨X_v, x_v, rfl, v, hb⟩
  replace h := Below.step h hb
  replace hxa := hxa.kept hb
  replace ts0 := ts0.kept hb
  clear hb ka0 ka1 la
  obtain ⟨ka0, ka1⟩ := hxa.two
  have la := hxa.lt
  replace v := v.I
  go_wp2_with fail
  clear ts0
  have d_v_x0 := v.le
  have lo_x0 := h.size
  refine (toIntS_any R0 n0 c0 xs0 _ hn0 (hrd0.out _ h)).mono ?_
  rintro e w4 ⟨X_x0, x_x0, rfl, x0, hb⟩
  replace h := Below.step h hb
  replace hxa := hxa.kept hb
  replace v := v.kept hb
  clear hb ka0 ka1 la
  obtain ⟨ka0, ka1⟩ := hxa.two
  have la := hxa.lt
  replace x0 := x0.I
  go_wp2_with fail
  refine (toCurve_any a b _).mono ?_
  rintro e w5 ⟨rfl, hb⟩
  replace h := Below.step h hb
  replace hxa := hxa.kept hb
  replace v := v.kept hb
  replace x0 := x0.kept hb
  clear hb ka0 ka1 la
  obtain ⟨ka0, ka1⟩ := hxa.two
  have la := hxa.lt
  go_wp2_with fail
  have d_v_g := v.le
  have d_x0_g := x0.le
  have lo_g := h.size
  refine (hI.out _ _ _ x0.rd).mono ?_
  rintro e w6 ⟨X_g, x_g, rfl, g, hb⟩
  replace h := Below.step h hb
  replace hxa := hxa.kept hb
  replace v := v.kept hb
  replace x0 := x0.kept hb
  clear hb ka0 ka1 la
  obtain ⟨ka0, ka1⟩ := hxa.two
  have la := hxa.lt
  replace g := g.I
  go_wp2_with fail
  refine (eqIntS_yes X_g X_v _ x_g _ x_v rs _ (by omega) g.rd v.rd).mono ?_
  rintro e w7 ⟨rfl, hb⟩
  replace h := Below.step h hb
  replace hxa := hxa.kept hb
  replace v := v.kept hb
  replace x0 := x0.kept hb
  replace g := g.kept hb
  clear hb ka0 ka1 la
  obtain ⟨ka0, ka1⟩ := hxa.two
  have la := hxa.lt
  go_wp2_with fail
  have d_v_u0 := v.le
  have d_x0_u0 := x0.le
  have d_g_u0 := g.le
  have lo_u0 := h.size
  refine (toIntS_any R0 n0 c0 xs0 _ hn0 (hrd0.out _ h)).mono ?_
  rintro e w8 ⟨X_u0, x_u0, rfl, u0, hb⟩
  replace h := Below.step h hb
  replace hxa := hxa.kept hb
  replace v := v.kept hb
  replace x0 := x0.kept hb
  replace g := g.kept hb
  clear hb ka0 ka1 la
  obtain ⟨ka0, ka1⟩ := hxa.two
  have la := hxa.lt
  replace u0 := u0.I
  go_wp2_with fail
  refine (eqIntS_yes X_x0 X_u0 _ x_x0 _ x_u0 xs0 _ (by omega) x0.rd u0.rd).mono ?_
  rintro e w9 ⟨rfl, hb⟩
  replace h := Below.step h hb
  replace hxa := hxa.kept hb
  replace v := v.kept hb
  replace x0 := x0.kept hb
  replace g := g.kept hb
  replace u0 := u0.kept hb
  clear hb ka0 ka1 la
  obtain ⟨ka0, ka1⟩ := hxa.two
  have la := hxa.lt
  go_wp2_with fail
  clear u0
  refine (markIntS_any X_x0 x_x0 _ xs0 1 _ (by omega) (by omega) x0.own).mono ?_
  rintro e w10 ⟨rfl, hm, hg⟩
  replace h := x0.below hg h lo_x0
  replace v := v.aside x0 hg (.inl d_v_x0)
  replace g := g.aside x0 hg (.inr d_x0_g)
  replace hxa := hxa.aside x0 hg (by decide)
  clear hm hg x0 ka0 ka1 la
  obtain ⟨ka0, ka1⟩ := hxa.two
  have la := hxa.lt
  go_wp2_with fail
  refine (eqIntS_yes X_g X_v _ x_g _ x_v rs _ (by omega) g.rd v.rd).mono ?_
  rintro e w11 ⟨rfl, hb⟩
  replace h := Below.step h hb
  replace hxa := hxa.kept hb
  replace v := v.kept hb
  replace g := g.kept hb
  clear hb ka0 ka1 la
  obtain ⟨ka0, ka1⟩ := hxa.two
  have la := hxa.lt
  go_wp2_with fail
  refine (markIntS_any X_g x_g _ rs 1 _ (by omega) (by omega) g.own).mono ?_
  rintro e w12 ⟨rfl, hm, hg⟩
  replace h := g.below hg h lo_g
  replace v := v.aside g hg (.inl d_v_g)
  replace hxa := hxa.aside g hg (by decide)
  have hmk := hm.rd_marks
  clear hm hg g ka0 ka1 la
  obtain ⟨ka0, ka1⟩ := hxa.two
  have la := hxa.lt
  go_wp2_with fail
  refine (heldIntS_any X_g rs.length x_g _ 1 _ (by omega) (by omega) hmk).mono ?_
  rintro e w13 ⟨rfl, rfl⟩
  go_wp2_with fail
  refine (toCurve_any a b _).mono ?_
  rintro e w14 ⟨rfl, hb⟩
  replace h := Below.step h hb
  replace hxa := hxa.kept hb
  replace v := v.kept hb
  replace hmk := hmk.kept hb
  clear hb ka0 ka1 la
  obtain ⟨ka0, ka1⟩ := hxa.two
  have la := hxa.lt
  go_wp2_with fail
  have d_v_th0 := v.le
  have lo_th0 := h.size
  refine (toIntS_any R0 n0 c0 xs0 _ hn0 (hrd0.out _ h)).mono ?_
  rintro e w15 ⟨X_th0, x_th0, rfl, th0, hb⟩
  replace h := Below.step h hb
  replace hxa := hxa.kept hb
  replace v := v.kept hb
  replace hmk := hmk.kept hb
  clear hb ka0 ka1 la
  obtain ⟨ka0, ka1⟩ := hxa.two
  have la := hxa.lt
  replace th0 := th0.I
  go_wp2_with fail
  have d_v_hh := v.le
  have d_th0_hh := th0.le
  have lo_hh := h.size
  refine (hI.out _ _ _ th0.rd).mono ?_
  rintro e w16 ⟨X_hh, x_hh, rfl, hh, hb⟩
  replace h := Below.step h hb
  replace hxa := hxa.kept hb
  replace v := v.kept hb
  replace hmk := hmk.kept hb
  replace th0 := th0.kept hb
  clear hb ka0 ka1 la
  obtain ⟨ka0, ka1⟩ := hxa.two
  have la := hxa.lt
  replace hh := hh.I
  go_wp2_with fail
  clear th0
  refine (eqIntS_yes X_hh X_v _ x_hh _ x_v rs _ (by omega) hh.rd v.rd).mono ?_
  rintro e w17 ⟨rfl, hb⟩
  replace h := Below.step h hb
  replace hxa := hxa.kept hb
  replace v := v.kept hb
  replace hmk := hmk.kept hb
  replace hh := hh.kept hb
  clear hb ka0 ka1 la
  obtain ⟨ka0, ka1⟩ := hxa.two
  have la := hxa.lt
  go_wp2_with fail
  refine (heldIntS_any X_g rs.length x_g _ 1 _ (by omega) (by omega) hmk).mono ?_
  rintro e w18 ⟨rfl, rfl⟩
  go_wp2_with fail
  go_ret
  exact ⟨rfl, h⟩

set_option maxHeartbeats 400000 in
set_option maxRecDepth 100000 in
theorem lawTimesModulo_long0 (a b : Int) (z0 : Int) (z1 : Int) (R0 : Option Addr) (n0 c0 : Nat) (w : World) (hn0 : ¬ n0 ≤ 1048576) :
    Calls Try.prog 9 #[.agg #[.int .i64 a, .int .i64 b], .int .i64 z0, .int .i64 z1, .slice R0 n0 c0] w fun e w' => e = .returned (.bool true) ∧ Below w.heap.size w w' := by
  have hsz0 : (n0 : Int) > 1048576 := by omega
  have h := Below.refl w.heap.size w
  have hA := below_alloc1 w (.cells #[.int .i64 a, .int .i64 b] 23)
  have hxa := Box.new w 23 #[.int .i64 a, .int .i64 b]
  replace h := Below.step h hA
  clear hA
  obtain ⟨ka0, ka1⟩ := hxa.two
  have la := hxa.lt
  go_enter Try.func9, Try.ntmps9
  go_wp2_with fail
  go_ret
  exact ⟨rfl, h⟩
end Go.Proofs.Ytbgoiflkpefckaa
