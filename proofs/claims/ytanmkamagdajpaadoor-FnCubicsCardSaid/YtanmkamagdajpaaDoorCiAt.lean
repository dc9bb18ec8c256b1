/- The program's sign of a value, CubicAt, CubicDiscriminant, RealRootCount, validCubic, ReverseCubic (written by wip/gen/cui.py). -/
import Derived.Test.YtanmkamagdajpaaDoorCiBase
import Derived.Deep.QuietTactic
import Derived.BigQuiet
import Derived.RegionTactic
import Derived.ChangeAlike
namespace Go.Proofs.YtanmkamagdajpaaDoor
open Go.RowKit Go.Joins

theorem compare_any (x y : Int) (w : World) : Calls Tryd.prog 50 #[.int .i64 x, .int .i64 y] w fun e w' => e = .returned (.int .i64 (sgn (x - y))) ∧ w = w' := by
  unfold sgn
  by_cases h1 : 0 < x - y
  · rw [if_pos h1]; exact compare_gt x y w (by omega)
  · rw [if_neg h1]
    by_cases h2 : x - y < 0
    · rw [if_pos h2]; exact compare_lt x y w (by omega)
    · rw [if_neg h2]; exact compare_eq x y w (by omega)

set_option maxHeartbeats 1000000 in
theorem signI_any (a b c d n m : Int) (g : Nat) (w : World) (hx : Box w g 24 #[.int .i64 a, .int .i64 b, .int .i64 c, .int .i64 d]) (ha : -1000 ≤ a ∧ a ≤ 1000) (hb : -1000 ≤ b ∧ b ≤ 1000) (hc : -1000 ≤ c ∧ c ≤ 1000) (hd : -1000 ≤ d ∧ d ≤ 1000) (hn : -10000 ≤ n ∧ n ≤ 10000) (hm : -1000 ≤ m ∧ m ≤ 1000) (S : Int) (hS : sgn (cuVal a b c d n m) = S) :
    Calls Tryd.prog 39 #[.agg #[.func (.func 43) #[] #[.pointer (some ⟨g, 0, none⟩)]], .int .i64 n, .int .i64 m] w fun e w' => e = .returned (.int .i64 S) ∧ w.alloc (.cells #[.func (.func 43) #[] #[.pointer (some ⟨g, 0, none⟩)]] 53) = w' := by
  obtain ⟨V, hV⟩ : ∃ V, cuVal a b c d n m = V := ⟨_, rfl⟩
  have key := fun (W : World) (h : Box W g 24 #[.int .i64 a, .int .i64 b, .int .i64 c, .int .i64 d]) => value_any a b c d n m g W h ha hb hc hd hn hm V hV
  have kc := fun (W : World) => compare_any V 0 W
  rw [hV] at hS
  rw [Int.sub_zero, hS] at kc
  have hA := below_alloc1 w (.cells #[.func (.func 43) #[] #[.pointer (some ⟨g, 0, none⟩)]] 53)
  have hx2 := hx.kept hA
  have hxv := Box.new w 53 #[.func (.func 43) #[] #[.pointer (some ⟨g, 0, none⟩)]]
  have kk := Box.one hxv
  have k2 := key _ hx2
  replace k2 := Lib.hid k2
  replace kc := Lib.hid kc
  clear hV hS ha hb hc hd hn hm key hx hxv hA hx2
  go_enter Tryd.func39, Tryd.ntmps39
  go_wp2_with fail
  refine (k2.out).mono ?_
  rintro e w1 ⟨rfl, rfl⟩
  go_wp2_with fail
  refine (kc.out _).mono ?_
  rintro e w1 ⟨rfl, rfl⟩
  go_wp2_with fail
  go_ret
  exact ⟨rfl, rfl⟩

set_option maxHeartbeats 1000000 in
theorem cubicAtI_yes (a b c d x : Int) (w : World) (g : CuG a b c d) (h1 : -10000 ≤ x) (h2 : x ≤ 10000) (V : Int) (hV : cuVal a b c d x 1 = V) : Calls Tryd.prog 18 #[.agg #[.int .i64 a, .int .i64 b, .int .i64 c, .int .i64 d], .int .i64 x] w (GivesIB w V true) := by
  have key := fun (gv : Nat) (W : World) (hv : Box W gv 24 #[.int .i64 a, .int .i64 b, .int .i64 c, .int .i64 d]) => value_any a b c d x 1 gv W hv g.2.1 g.2.2.1 g.2.2.2.1 g.2.2.2.2 ⟨h1, h2⟩ (by omega) V hV
  replace key := Lib.hid key
  have hfd := field_values
  clear hV
  have h := below_alloc1 w (.cells #[.int .i64 a, .int .i64 b, .int .i64 c, .int .i64 d] 24)
  have hx0 := Box.new w 24 #[.int .i64 a, .int .i64 b, .int .i64 c, .int .i64 d]
  obtain ⟨k0, k1, k2, k3⟩ := hx0.four
  go_enter Tryd.func18, Tryd.ntmps18
  go_wp2_with fail
  refine (isCubicI_yes a b c d _ g).mono ?_
  rintro e w1 ⟨rfl, hb⟩
  replace h := Below.step h hb
  replace hx0 := hx0.kept hb
  clear hb k0 k1 k2 k3
  obtain ⟨k0, k1, k2, k3⟩ := hx0.four
  go_wp2_with fail
  refine (valuesOf_any a b c d _).mono ?_
  rintro e w2 ⟨gv, rfl, hv, hgv, hb⟩
  replace h := Below.step h hb
  replace hx0 := hx0.kept hb
  clear hb k0 k1 k2 k3
  obtain ⟨k0, k1, k2, k3⟩ := hx0.four
  go_wp2_with fail
  refine (key.out _ _ hv).mono ?_
  rintro e w3 ⟨rfl, rfl⟩
  go_wp2_with fail
  go_ret2
  exact ⟨rfl, h⟩

set_option maxHeartbeats 1000000 in
theorem cubicAtI_out (a b c d x : Int) (w : World) (g : CuG a b c d) (hx : x < -10000 ∨ 10000 < x) : Calls Tryd.prog 18 #[.agg #[.int .i64 a, .int .i64 b, .int .i64 c, .int .i64 d], .int .i64 x] w (GivesIB w 0 false) := by
  by_cases hx1 : x < -10000
  · clear hx
    have h := below_alloc1 w (.cells #[.int .i64 a, .int .i64 b, .int .i64 c, .int .i64 d] 24)
    have hx0 := Box.new w 24 #[.int .i64 a, .int .i64 b, .int .i64 c, .int .i64 d]
    obtain ⟨k0, k1, k2, k3⟩ := hx0.four
    go_enter Tryd.func18, Tryd.ntmps18
    go_wp2_with fail
    refine (isCubicI_yes a b c d _ g).mono ?_
    rintro e w1 ⟨rfl, hb⟩
    replace h := Below.step h hb
    go_wp2_with fail
    go_ret2
    exact ⟨rfl, h⟩
  · have hx2 : 10000 < x := by omega
    clear hx
    have h := below_alloc1 w (.cells #[.int .i64 a, .int .i64 b, .int .i64 c, .int .i64 d] 24)
    have hx0 := Box.new w 24 #[.int .i64 a, .int .i64 b, .int .i64 c, .int .i64 d]
    obtain ⟨k0, k1, k2, k3⟩ := hx0.four
    go_enter Tryd.func18, Tryd.ntmps18
    go_wp2_with fail
    refine (isCubicI_yes a b c d _ g).mono ?_
    rintro e w1 ⟨rfl, hb⟩
    replace h := Below.step h hb
    go_wp2_with fail
    go_ret2
    exact ⟨rfl, h⟩

set_option maxHeartbeats 1000000 in
theorem cubicAtI_bad (a b c d x : Int) (w : World) (g : ¬ CuG a b c d) : Calls Tryd.prog 18 #[.agg #[.int .i64 a, .int .i64 b, .int .i64 c, .int .i64 d], .int .i64 x] w (GivesIB w 0 false) := by
  have h := below_alloc1 w (.cells #[.int .i64 a, .int .i64 b, .int .i64 c, .int .i64 d] 24)
  have hx0 := Box.new w 24 #[.int .i64 a, .int .i64 b, .int .i64 c, .int .i64 d]
  obtain ⟨k0, k1, k2, k3⟩ := hx0.four
  go_enter Tryd.func18, Tryd.ntmps18
  go_wp2_with fail
  refine (isCubicI_no a b c d _ g).mono ?_
  rintro e w1 ⟨rfl, hb⟩
  replace h := Below.step h hb
  replace hx0 := hx0.kept hb
  clear hb k0 k1 k2 k3
  obtain ⟨k0, k1, k2, k3⟩ := hx0.four
  go_wp2_with fail
  go_ret2
  exact ⟨rfl, h⟩

set_option maxHeartbeats 1000000 in
theorem validI_yes (a b c d : Int) (w : World) (g : CuG a b c d) : Calls Tryd.prog 24 #[.agg #[.int .i64 a, .int .i64 b, .int .i64 c, .int .i64 d]] w (GivesCB w a b c d true) := by
  have h := below_alloc1 w (.cells #[.int .i64 a, .int .i64 b, .int .i64 c, .int .i64 d] 24)
  have hx0 := Box.new w 24 #[.int .i64 a, .int .i64 b, .int .i64 c, .int .i64 d]
  have hA := below_alloc1 (w.alloc (.cells #[.int .i64 a, .int .i64 b, .int .i64 c, .int .i64 d] 24)) (.cells #[.int .i64 0, .int .i64 0, .int .i64 0, .int .i64 0] 24)
  have hxr := Box.new (w.alloc (.cells #[.int .i64 a, .int .i64 b, .int .i64 c, .int .i64 d] 24)) 24 #[.int .i64 0, .int .i64 0, .int .i64 0, .int .i64 0]
  rw [show (w.alloc (.cells #[.int .i64 a, .int .i64 b, .int .i64 c, .int .i64 d] 24)).heap.size = w.heap.size + 1 from by simp] at hxr
  replace h := Below.step h hA
  replace hx0 := hx0.kept hA
  clear hA
  obtain ⟨k0, k1, k2, k3⟩ := hx0.four
  go_enter Tryd.func24, Tryd.ntmps24
  go_wp2_with fail
  refine (isCubicI_yes a b c d _ g).mono ?_
  rintro e w1 ⟨rfl, hb⟩
  replace h := Below.step h hb
  replace hx0 := hx0.kept hb
  replace hxr := hxr.kept hb
  clear hb k0 k1 k2 k3
  obtain ⟨k0, k1, k2, k3⟩ := hx0.four
  obtain ⟨r0, r1, r2, r3⟩ := hxr.four
  have f0 := hxr.free 0
  have f1 := hxr.free 1
  have f2 := hxr.free 2
  have f3 := hxr.free 3
  have lr := hxr.lt
  obtain ⟨s0, s1, s2, s3⟩ := ((((hxr.set 0 (.int .i64 a)).set 1 (.int .i64 b)).set 2 (.int .i64 c)).set 3 (.int .i64 d)).four
  go_wp2_with fail
  refine bodyPost_ret (v := .tuple #[.agg #[.int .i64 a, .int .i64 b, .int .i64 c, .int .i64 d], .bool true]) (by simp [results, Tryd.results24, go_sem, s0, s1, s2, s3]) (by rfl) ⟨by rfl, ?_⟩
  exact below_sets4 h (Nat.le_succ _) _ _ _ _

set_option maxHeartbeats 1000000 in
theorem validI_no (a b c d : Int) (w : World) (g : ¬ CuG a b c d) : Calls Tryd.prog 24 #[.agg #[.int .i64 a, .int .i64 b, .int .i64 c, .int .i64 d]] w (GivesCB w 0 0 0 0 false) := by
  have h := below_alloc1 w (.cells #[.int .i64 a, .int .i64 b, .int .i64 c, .int .i64 d] 24)
  have hx0 := Box.new w 24 #[.int .i64 a, .int .i64 b, .int .i64 c, .int .i64 d]
  have hA := below_alloc1 (w.alloc (.cells #[.int .i64 a, .int .i64 b, .int .i64 c, .int .i64 d] 24)) (.cells #[.int .i64 0, .int .i64 0, .int .i64 0, .int .i64 0] 24)
  have hxr := Box.new (w.alloc (.cells #[.int .i64 a, .int .i64 b, .int .i64 c, .int .i64 d] 24)) 24 #[.int .i64 0, .int .i64 0, .int .i64 0, .int .i64 0]
  rw [show (w.alloc (.cells #[.int .i64 a, .int .i64 b, .int .i64 c, .int .i64 d] 24)).heap.size = w.heap.size + 1 from by simp] at hxr
  replace h := Below.step h hA
  replace hx0 := hx0.kept hA
  clear hA
  obtain ⟨k0, k1, k2, k3⟩ := hx0.four
  go_enter Tryd.func24, Tryd.ntmps24
  go_wp2_with fail
  refine (isCubicI_no a b c d _ g).mono ?_
  rintro e w1 ⟨rfl, hb⟩
  replace h := Below.step h hb
  replace hx0 := hx0.kept hb
  replace hxr := hxr.kept hb
  clear hb k0 k1 k2 k3
  obtain ⟨k0, k1, k2, k3⟩ := hx0.four
  obtain ⟨r0, r1, r2, r3⟩ := hxr.four
  have f0 := hxr.free 0
  have f1 := hxr.free 1
  have f2 := hxr.free 2
  have f3 := hxr.free 3
  have lr := hxr.lt
  obtain ⟨s0, s1, s2, s3⟩ := ((((hxr.set 0 (.int .i64 0)).set 1 (.int .i64 0)).set 2 (.int .i64 0)).set 3 (.int .i64 0)).four
  go_wp2_with fail
  refine bodyPost_ret (v := .tuple #[.agg #[.int .i64 0, .int .i64 0, .int .i64 0, .int .i64 0], .bool false]) (by simp [results, Tryd.results24, go_sem, s0, s1, s2, s3]) (by rfl) ⟨by rfl, ?_⟩
  exact below_sets4 h (Nat.le_succ _) _ _ _ _

set_option maxHeartbeats 1000000 in
theorem revI_yes (a b c d : Int) (w : World) (g : CuG a b c d) (hg2 : CuG d c b a) : Calls Tryd.prog 10 #[.agg #[.int .i64 a, .int .i64 b, .int .i64 c, .int .i64 d]] w (GivesCB w d c b a true) := by
  have key := fun (W : World) => validI_yes d c b a W hg2
  replace key := Lib.hid key
  clear hg2
  have h := below_alloc1 w (.cells #[.int .i64 a, .int .i64 b, .int .i64 c, .int .i64 d] 24)
  have hx0 := Box.new w 24 #[.int .i64 a, .int .i64 b, .int .i64 c, .int .i64 d]
  have hA := below_alloc1 (w.alloc (.cells #[.int .i64 a, .int .i64 b, .int .i64 c, .int .i64 d] 24)) (.cells #[.int .i64 0, .int .i64 0, .int .i64 0, .int .i64 0] 24)
  have hxr := Box.new (w.alloc (.cells #[.int .i64 a, .int .i64 b, .int .i64 c, .int .i64 d] 24)) 24 #[.int .i64 0, .int .i64 0, .int .i64 0, .int .i64 0]
  rw [show (w.alloc (.cells #[.int .i64 a, .int .i64 b, .int .i64 c, .int .i64 d] 24)).heap.size = w.heap.size + 1 from by simp] at hxr
  replace h := Below.step h hA
  replace hx0 := hx0.kept hA
  clear hA
  obtain ⟨k0, k1, k2, k3⟩ := hx0.four
  go_enter Tryd.func10, Tryd.ntmps10
  go_wp2_with fail
  refine (isCubicI_yes a b c d _ g).mono ?_
  rintro e w1 ⟨rfl, hb⟩
  replace h := Below.step h hb
  replace hx0 := hx0.kept hb
  replace hxr := hxr.kept hb
  clear hb k0 k1 k2 k3
  obtain ⟨k0, k1, k2, k3⟩ := hx0.four
  go_wp2_with fail
  refine (key.out _).mono ?_
  rintro e w2 ⟨rfl, hb⟩
  replace h := Below.step h hb
  replace hx0 := hx0.kept hb
  replace hxr := hxr.kept hb
  clear hb k0 k1 k2 k3
  obtain ⟨k0, k1, k2, k3⟩ := hx0.four
  obtain ⟨r0, r1, r2, r3⟩ := hxr.four
  have f0 := hxr.free 0
  have f1 := hxr.free 1
  have f2 := hxr.free 2
  have f3 := hxr.free 3
  have lr := hxr.lt
  obtain ⟨s0, s1, s2, s3⟩ := ((((hxr.set 0 (.int .i64 d)).set 1 (.int .i64 c)).set 2 (.int .i64 b)).set 3 (.int .i64 a)).four
  go_wp2_with fail
  refine bodyPost_ret (v := .tuple #[.agg #[.int .i64 d, .int .i64 c, .int .i64 b, .int .i64 a], .bool true]) (by simp [results, Tryd.results10, go_sem, s0, s1, s2, s3]) (by rfl) ⟨by rfl, ?_⟩
  exact below_sets4 h (Nat.le_succ _) _ _ _ _

set_option maxHeartbeats 1000000 in
theorem revI_zero (a b c d : Int) (w : World) (g : CuG a b c d) (hg2 : ¬ CuG d c b a) : Calls Tryd.prog 10 #[.agg #[.int .i64 a, .int .i64 b, .int .i64 c, .int .i64 d]] w (GivesCB w 0 0 0 0 false) := by
  have key := fun (W : World) => validI_no d c b a W hg2
  replace key := Lib.hid key
  clear hg2
  have h := below_alloc1 w (.cells #[.int .i64 a, .int .i64 b, .int .i64 c, .int .i64 d] 24)
  have hx0 := Box.new w 24 #[.int .i64 a, .int .i64 b, .int .i64 c, .int .i64 d]
  have hA := below_alloc1 (w.alloc (.cells #[.int .i64 a, .int .i64 b, .int .i64 c, .int .i64 d] 24)) (.cells #[.int .i64 0, .int .i64 0, .int .i64 0, .int .i64 0] 24)
  have hxr := Box.new (w.alloc (.cells #[.int .i64 a, .int .i64 b, .int .i64 c, .int .i64 d] 24)) 24 #[.int .i64 0, .int .i64 0, .int .i64 0, .int .i64 0]
  rw [show (w.alloc (.cells #[.int .i64 a, .int .i64 b, .int .i64 c, .int .i64 d] 24)).heap.size = w.heap.size + 1 from by simp] at hxr
  replace h := Below.step h hA
  replace hx0 := hx0.kept hA
  clear hA
  obtain ⟨k0, k1, k2, k3⟩ := hx0.four
  go_enter Tryd.func10, Tryd.ntmps10
  go_wp2_with fail
  refine (isCubicI_yes a b c d _ g).mono ?_
  rintro e w1 ⟨rfl, hb⟩
  replace h := Below.step h hb
  replace hx0 := hx0.kept hb
  replace hxr := hxr.kept hb
  clear hb k0 k1 k2 k3
  obtain ⟨k0, k1, k2, k3⟩ := hx0.four
  go_wp2_with fail
  refine (key.out _).mono ?_
  rintro e w2 ⟨rfl, hb⟩
  replace h := Below.step h hb
  replace hx0 := hx0.kept hb
  replace hxr := hxr.kept hb
  clear hb k0 k1 k2 k3
  obtain ⟨k0, k1, k2, k3⟩ := hx0.four
  obtain ⟨r0, r1, r2, r3⟩ := hxr.four
  have f0 := hxr.free 0
  have f1 := hxr.free 1
  have f2 := hxr.free 2
  have f3 := hxr.free 3
  have lr := hxr.lt
  obtain ⟨s0, s1, s2, s3⟩ := ((((hxr.set 0 (.int .i64 0)).set 1 (.int .i64 0)).set 2 (.int .i64 0)).set 3 (.int .i64 0)).four
  go_wp2_with fail
  refine bodyPost_ret (v := .tuple #[.agg #[.int .i64 0, .int .i64 0, .int .i64 0, .int .i64 0], .bool false]) (by simp [results, Tryd.results10, go_sem, s0, s1, s2, s3]) (by rfl) ⟨by rfl, ?_⟩
  exact below_sets4 h (Nat.le_succ _) _ _ _ _

set_option maxHeartbeats 1000000 in
theorem revI_bad (a b c d : Int) (w : World) (g : ¬ CuG a b c d) : Calls Tryd.prog 10 #[.agg #[.int .i64 a, .int .i64 b, .int .i64 c, .int .i64 d]] w (GivesCB w 0 0 0 0 false) := by
  have h := below_alloc1 w (.cells #[.int .i64 a, .int .i64 b, .int .i64 c, .int .i64 d] 24)
  have hx0 := Box.new w 24 #[.int .i64 a, .int .i64 b, .int .i64 c, .int .i64 d]
  have hA := below_alloc1 (w.alloc (.cells #[.int .i64 a, .int .i64 b, .int .i64 c, .int .i64 d] 24)) (.cells #[.int .i64 0, .int .i64 0, .int .i64 0, .int .i64 0] 24)
  have hxr := Box.new (w.alloc (.cells #[.int .i64 a, .int .i64 b, .int .i64 c, .int .i64 d] 24)) 24 #[.int .i64 0, .int .i64 0, .int .i64 0, .int .i64 0]
  rw [show (w.alloc (.cells #[.int .i64 a, .int .i64 b, .int .i64 c, .int .i64 d] 24)).heap.size = w.heap.size + 1 from by simp] at hxr
  replace h := Below.step h hA
  replace hx0 := hx0.kept hA
  clear hA
  obtain ⟨k0, k1, k2, k3⟩ := hx0.four
  go_enter Tryd.func10, Tryd.ntmps10
  go_wp2_with fail
  refine (isCubicI_no a b c d _ g).mono ?_
  rintro e w1 ⟨rfl, hb⟩
  replace h := Below.step h hb
  replace hx0 := hx0.kept hb
  replace hxr := hxr.kept hb
  clear hb k0 k1 k2 k3
  obtain ⟨k0, k1, k2, k3⟩ := hx0.four
  obtain ⟨r0, r1, r2, r3⟩ := hxr.four
  have f0 := hxr.free 0
  have f1 := hxr.free 1
  have f2 := hxr.free 2
  have f3 := hxr.free 3
  have lr := hxr.lt
  obtain ⟨s0, s1, s2, s3⟩ := ((((hxr.set 0 (.int .i64 0)).set 1 (.int .i64 0)).set 2 (.int .i64 0)).set 3 (.int .i64 0)).four
  go_wp2_with fail
  refine bodyPost_ret (v := .tuple #[.agg #[.int .i64 0, .int .i64 0, .int .i64 0, .int .i64 0], .bool false]) (by simp [results, Tryd.results10, go_sem, s0, s1, s2, s3]) (by rfl) ⟨by rfl, ?_⟩
  exact below_sets4 h (Nat.le_succ _) _ _ _ _
end Go.Proofs.YtanmkamagdajpaaDoor
