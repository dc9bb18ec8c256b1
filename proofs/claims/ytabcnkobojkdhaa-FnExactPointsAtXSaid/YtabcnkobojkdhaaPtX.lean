/- PointsAtX of the model (written by wip/gen/ptx.py). -/
import Derived.Test.YtabcnkobojkdhaaPtSum
import Derived.Test.YtabcnkobojkdhaaPLaw
import Derived.Test.YtabcnkobojkdhaaPtS
import Derived.Test.YtabcnkobojkdhaaFrGood
import Derived.Test.YtabcnkobojkdhaaPtRoot
import Derived.Test.YtabcnkobojkdhaaPtMul
import Derived.Deep.RegionHeld3
import Derived.Deep.DeepCutAuto
import Derived.BigQuiet
namespace Go.Proofs.Ytabcnkobojkdhaa
open Go.RowKit Go.Joins

theorem ownP_lit1 (w : World) (s : P3) {base : Nat} (hb : base ≤ w.heap.size) : OwnP (w.alloc (.cells #[.int .i64 s.x, .int .i64 s.y, .int .i64 s.e] 29)) base (.slice (some ⟨w.heap.size, 0, none⟩) 1 1) [s] :=
  World.ownsRow_lit w #[.int .i64 s.x, .int .i64 s.y, .int .i64 s.e] 1 hb (by unfold maxLen; omega) rfl
theorem ownP_lit2 (w : World) (s r : P3) {base : Nat} (hb : base ≤ w.heap.size) : OwnP (w.alloc (.cells #[.int .i64 s.x, .int .i64 s.y, .int .i64 s.e, .int .i64 r.x, .int .i64 r.y, .int .i64 r.e] 29)) base (.slice (some ⟨w.heap.size, 0, none⟩) 2 2) [s, r] :=
  World.ownsRow_lit w #[.int .i64 s.x, .int .i64 s.y, .int .i64 s.e, .int .i64 r.x, .int .i64 r.y, .int .i64 r.e] 2 hb (by unfold maxLen; omega) rfl
theorem frRoot_i (n : Int) (w : World) (h0 : 0 ≤ n) (h1 : n ≤ 4000000000000000000) : Calls Try.prog 32 #[.int .i64 n] w fun e w' => e = .returned (.int .i64 (iroot n)) ∧ w = w' := by
  have := frRoot_any n.toNat w (by omega) _ (rootOf_spec n.toNat)
  rw [show ((n.toNat : Nat) : Int) = n from by omega] at this
  exact this
theorem frSq_i (n : Int) (w : World) (h0 : 0 ≤ n) (h1 : n ≤ 4000000000000000000) : Calls Try.prog 31 #[.int .i64 n] w fun e w' => e = .returned (.bool (iroot n * iroot n == n)) ∧ w = w' := by
  have hn : ((n.toNat : Nat) : Int) = n := by omega
  have hr := rootOf_spec n.toNat
  have hc : ((rootOf n.toNat * rootOf n.toNat : Nat) : Int) = iroot n * iroot n := by rw [Int.natCast_mul]; rfl
  by_cases h : rootOf n.toNat * rootOf n.toNat = n.toNat
  · have := frSquare_yes n.toNat _ w (by omega) h
    rw [hn] at this
    rwa [show (iroot n * iroot n == n) = true from by rw [beq_iff_eq]; omega]
  · have := frSquare_no n.toNat _ w (by omega) hr h
    rw [hn] at this
    rwa [show (iroot n * iroot n == n) = false from by rw [beq_eq_false_iff_ne]; omega]
/-- The points with X and E of a value V. -/
noncomputable def atX (x e V : Int) : List P3 := if V < 0 ∨ iroot V * iroot V ≠ V then [] else if V = 0 then [⟨x, 0, e⟩] else [⟨x, -iroot V, e⟩, ⟨x, iroot V, e⟩]

set_option maxHeartbeats 1000000 in
set_option maxRecDepth 100000 in
theorem ptAtX_neg (a b x e V : Int) (w : World) (c1 : ∀ W : World, Calls Try.prog 41 #[.agg #[.int .i64 a, .int .i64 b], .int .i64 x, .int .i64 e] W (GivesI W V)) (hv : V < 0) : Calls Try.prog 34 #[.agg #[.int .i64 a, .int .i64 b], .int .i64 x, .int .i64 e] w (GivesPRow w []) := by
  replace c1 := Lib.hid c1
  have h := Below.refl w.heap.size w
  have hA := below_alloc1 w (.cells #[.int .i64 a, .int .i64 b] 27)
  have hxc := Box.new w 27 #[.int .i64 a, .int .i64 b]
  replace h := Below.step h hA
  clear hA
  obtain ⟨kc0, kc1⟩ := hxc.two
  have lc := hxc.lt
  go_enter Try.func34, Try.ntmps34
  go_wp2_with fail
  refine (c1.out _).mono ?_
  rintro e w1 ⟨rfl, hb⟩
  replace h := Below.step h hb
  replace hxc := hxc.kept hb
  clear hb kc0 kc1 lc
  obtain ⟨kc0, kc1⟩ := hxc.two
  have lc := hxc.lt
  go_wp2_with fail
  go_ret
  exact ⟨none, 0, rfl, ownP_nil _ _, h⟩


set_option maxHeartbeats 1000000 in
set_option maxRecDepth 100000 in
theorem ptAtX_no (a b x e V : Int) (w : World) (c1 : ∀ W : World, Calls Try.prog 41 #[.agg #[.int .i64 a, .int .i64 b], .int .i64 x, .int .i64 e] W (GivesI W V)) (hv : 0 ≤ V) (hv2 : V ≤ 4000000000000) (hr : iroot V * iroot V ≠ V) : Calls Try.prog 34 #[.agg #[.int .i64 a, .int .i64 b], .int .i64 x, .int .i64 e] w (GivesPRow w []) := by
  replace c1 := Lib.hid c1
  have c2 := fun W => frSq_i V W hv (by omega)
  rw [show (iroot V * iroot V == V) = false from by simpa using hr] at c2
  replace c2 := Lib.hid c2
  clear hr
  have h := Below.refl w.heap.size w
  have hA := below_alloc1 w (.cells #[.int .i64 a, .int .i64 b] 27)
  have hxc := Box.new w 27 #[.int .i64 a, .int .i64 b]
  replace h := Below.step h hA
  clear hA
  obtain ⟨kc0, kc1⟩ := hxc.two
  have lc := hxc.lt
  go_enter Try.func34, Try.ntmps34
  go_wp2_with fail
  refine (c1.out _).mono ?_
  rintro e w1 ⟨rfl, hb⟩
  replace h := Below.step h hb
  replace hxc := hxc.kept hb
  clear hb kc0 kc1 lc
  obtain ⟨kc0, kc1⟩ := hxc.two
  have lc := hxc.lt
  go_wp2_with fail
  refine (c2.out _).mono ?_
  rintro e w2 ⟨rfl, rfl⟩
  go_wp2_with fail
  go_ret
  exact ⟨none, 0, rfl, ownP_nil _ _, h⟩


set_option maxHeartbeats 1000000 in
set_option maxRecDepth 100000 in
theorem ptAtX_one (a b x e V : Int) (w : World) (c1 : ∀ W : World, Calls Try.prog 41 #[.agg #[.int .i64 a, .int .i64 b], .int .i64 x, .int .i64 e] W (GivesI W V)) (hv : V = 0) : Calls Try.prog 34 #[.agg #[.int .i64 a, .int .i64 b], .int .i64 x, .int .i64 e] w (GivesPRow w [⟨x, 0, e⟩]) := by
  subst hv
  have c2 := fun W => frSq_i 0 W (by omega) (by omega)
  rw [show (iroot 0 * iroot 0 == (0 : Int)) = true from by rw [show iroot 0 = 0 from iroot_sq (e := 0) (by omega)]; rfl] at c2
  replace c1 := Lib.hid c1
  replace c2 := Lib.hid c2
  have h := Below.refl w.heap.size w
  have hA := below_alloc1 w (.cells #[.int .i64 a, .int .i64 b] 27)
  have hxc := Box.new w 27 #[.int .i64 a, .int .i64 b]
  replace h := Below.step h hA
  clear hA
  obtain ⟨kc0, kc1⟩ := hxc.two
  have lc := hxc.lt
  go_enter Try.func34, Try.ntmps34
  go_wp2_with fail
  refine (c1.out _).mono ?_
  rintro e w1 ⟨rfl, hb⟩
  replace h := Below.step h hb
  replace hxc := hxc.kept hb
  clear hb kc0 kc1 lc
  obtain ⟨kc0, kc1⟩ := hxc.two
  have lc := hxc.lt
  go_wp2_with fail
  have hsz := h.size
  refine (c2.out _).mono ?_
  rintro e w2 ⟨rfl, rfl⟩
  go_wp2_with fail
  go_ret
  exact ⟨_, 1, rfl, ownP_lit1 _ ⟨x, 0, e⟩ hsz, Below.step h (below_alloc1 _ _)⟩


set_option maxHeartbeats 1000000 in
set_option maxRecDepth 100000 in
theorem ptAtX_two (a b x e V : Int) (w : World) (c1 : ∀ W : World, Calls Try.prog 41 #[.agg #[.int .i64 a, .int .i64 b], .int .i64 x, .int .i64 e] W (GivesI W V)) (hv : 1 ≤ V) (hv2 : V ≤ 4000000000000) (hr : iroot V * iroot V = V) : Calls Try.prog 34 #[.agg #[.int .i64 a, .int .i64 b], .int .i64 x, .int .i64 e] w (GivesPRow w [⟨x, -iroot V, e⟩, ⟨x, iroot V, e⟩]) := by
  have c2 := fun W => frSq_i V W (by omega) (by omega)
  have c3 := fun W => frRoot_i V W (by omega) (by omega)
  rw [show (iroot V * iroot V == V) = true from by simpa using hr] at c2
  have hb0 : 0 ≤ iroot V ∧ iroot V ≤ 4000000 := ⟨by unfold iroot; omega, by have h1 := (rootOf_spec V.toNat).lt (m := 4000000) (by omega); unfold iroot; omega⟩
  clear hr
  generalize iroot V = R at *
  have e0 : (V == 0) = false := by simp; omega
  replace c1 := Lib.hid c1
  replace c2 := Lib.hid c2
  replace c3 := Lib.hid c3
  have h := Below.refl w.heap.size w
  have hA := below_alloc1 w (.cells #[.int .i64 a, .int .i64 b] 27)
  have hxc := Box.new w 27 #[.int .i64 a, .int .i64 b]
  replace h := Below.step h hA
  clear hA
  obtain ⟨kc0, kc1⟩ := hxc.two
  have lc := hxc.lt
  go_enter Try.func34, Try.ntmps34
  go_wp2_with fail
  refine (c1.out _).mono ?_
  rintro e w1 ⟨rfl, hb⟩
  replace h := Below.step h hb
  replace hxc := hxc.kept hb
  clear hb kc0 kc1 lc
  obtain ⟨kc0, kc1⟩ := hxc.two
  have lc := hxc.lt
  go_wp2_with fail
  have hsz := h.size
  refine (c2.out _).mono ?_
  rintro e w2 ⟨rfl, rfl⟩
  go_wp2_with fail
  refine (c3.out _).mono ?_
  rintro e w3 ⟨rfl, rfl⟩
  go_wp2_with fail
  go_ret
  exact ⟨_, 2, rfl, ownP_lit2 _ ⟨x, -R, e⟩ ⟨x, R, e⟩ hsz, Below.step h (below_alloc1 _ _)⟩


theorem ptAtX_any (a b x e : Int) (w : World) (ha : -1000 ≤ a ∧ a ≤ 1000) (hb : -10000 ≤ b ∧ b ≤ 10000) (hx : -10000 ≤ x ∧ x ≤ 10000) (he : 1 ≤ e ∧ e ≤ 20) : Calls Try.prog 34 #[.agg #[.int .i64 a, .int .i64 b], .int .i64 x, .int .i64 e] w (GivesPRow w (atX x e (ptV a b x e))) := by
  have c1 := fun W => ptValue_any a b x e W ha hb hx he _ rfl
  have hv := ptV_le ha hb hx he
  unfold atX
  by_cases h0 : ptV a b x e < 0
  · rw [if_pos (.inl h0)]; exact ptAtX_neg a b x e _ w c1 h0
  · by_cases hr : iroot (ptV a b x e) * iroot (ptV a b x e) = ptV a b x e
    · rw [if_neg (fun k => k.elim h0 (fun k => k hr))]
      by_cases h1 : ptV a b x e = 0
      · rw [if_pos h1]; exact ptAtX_one a b x e _ w c1 h1
      · rw [if_neg h1]; exact ptAtX_two a b x e _ w c1 (by omega) (by omega) hr
    · rw [if_pos (.inr hr)]; exact ptAtX_no a b x e _ w c1 (by omega) (by omega) hr

set_option maxHeartbeats 1000000 in
set_option maxRecDepth 100000 in
theorem atXS_bad (a b n d : Int) (w : World) (g : ¬ EcG a b) : Calls Try.prog 14 #[.agg #[.int .i64 a, .int .i64 b], .agg #[.int .i64 n, .int .i64 d]] w (GivesPRowOk w [] false) := by
  have h := Below.refl w.heap.size w
  have hA := below_alloc1 w (.cells #[.int .i64 a, .int .i64 b] 27)
  have hxc := Box.new w 27 #[.int .i64 a, .int .i64 b]
  replace h := Below.step h hA
  clear hA
  have hA := below_alloc1 (w.alloc (.cells #[.int .i64 a, .int .i64 b] 27)) (.cells #[.int .i64 n, .int .i64 d] 40)
  have hxf := Box.new (w.alloc (.cells #[.int .i64 a, .int .i64 b] 27)) 40 #[.int .i64 n, .int .i64 d]
  rw [show (w.alloc (.cells #[.int .i64 a, .int .i64 b] 27)).heap.size = w.heap.size + 1 from by simp] at hxf
  replace h := Below.step h hA
  replace hxc := hxc.kept hA
  clear hA
  obtain ⟨kc0, kc1⟩ := hxc.two
  have lc := hxc.lt
  obtain ⟨kf0, kf1⟩ := hxf.two
  have lf := hxf.lt
  go_enter Try.func14, Try.ntmps14
  go_wp2_with fail
  refine (ecGood_no a b _ g).mono ?_
  rintro e w1 ⟨rfl, hb⟩
  replace h := Below.step h hb
  replace hxc := hxc.kept hb
  replace hxf := hxf.kept hb
  clear hb kc0 kc1 lc kf0 kf1 lf
  obtain ⟨kc0, kc1⟩ := hxc.two
  have lc := hxc.lt
  obtain ⟨kf0, kf1⟩ := hxf.two
  have lf := hxf.lt
  go_wp2_with fail
  go_ret2
  exact ⟨none, 0, rfl, ownP_nil _ _, h⟩


set_option maxHeartbeats 1000000 in
set_option maxRecDepth 100000 in
theorem atXS_fr (a b n d : Int) (w : World) (g : EcG a b) (gf : ¬ FrG n d) : Calls Try.prog 14 #[.agg #[.int .i64 a, .int .i64 b], .agg #[.int .i64 n, .int .i64 d]] w (GivesPRowOk w [] false) := by
  have h := Below.refl w.heap.size w
  have hA := below_alloc1 w (.cells #[.int .i64 a, .int .i64 b] 27)
  have hxc := Box.new w 27 #[.int .i64 a, .int .i64 b]
  replace h := Below.step h hA
  clear hA
  have hA := below_alloc1 (w.alloc (.cells #[.int .i64 a, .int .i64 b] 27)) (.cells #[.int .i64 n, .int .i64 d] 40)
  have hxf := Box.new (w.alloc (.cells #[.int .i64 a, .int .i64 b] 27)) 40 #[.int .i64 n, .int .i64 d]
  rw [show (w.alloc (.cells #[.int .i64 a, .int .i64 b] 27)).heap.size = w.heap.size + 1 from by simp] at hxf
  replace h := Below.step h hA
  replace hxc := hxc.kept hA
  clear hA
  obtain ⟨kc0, kc1⟩ := hxc.two
  have lc := hxc.lt
  obtain ⟨kf0, kf1⟩ := hxf.two
  have lf := hxf.lt
  go_enter Try.func14, Try.ntmps14
  go_wp2_with fail
  refine (ecGood_yes a b _ g).mono ?_
  rintro e w1 ⟨rfl, hb⟩
  replace h := Below.step h hb
  replace hxc := hxc.kept hb
  replace hxf := hxf.kept hb
  clear hb kc0 kc1 lc kf0 kf1 lf
  obtain ⟨kc0, kc1⟩ := hxc.two
  have lc := hxc.lt
  obtain ⟨kf0, kf1⟩ := hxf.two
  have lf := hxf.lt
  go_wp2_with fail
  refine (frGood_no n d _ gf).mono ?_
  rintro e w2 ⟨rfl, hb⟩
  replace h := Below.step h hb
  replace hxc := hxc.kept hb
  replace hxf := hxf.kept hb
  clear hb kc0 kc1 lc kf0 kf1 lf
  obtain ⟨kc0, kc1⟩ := hxc.two
  have lc := hxc.lt
  obtain ⟨kf0, kf1⟩ := hxf.two
  have lf := hxf.lt
  go_wp2_with fail
  go_ret2
  exact ⟨none, 0, rfl, ownP_nil _ _, h⟩


set_option maxHeartbeats 1000000 in
set_option maxRecDepth 100000 in
theorem atXS_sq (a b n d : Int) (w : World) (g : EcG a b) (gf : FrG n d) (hr : iroot d * iroot d ≠ d) : Calls Try.prog 14 #[.agg #[.int .i64 a, .int .i64 b], .agg #[.int .i64 n, .int .i64 d]] w (GivesPRowOk w [] false) := by
  have c2 := fun W => frSq_i d W (by have := gf.1; omega) (by have := gf.2.1; omega)
  have cf := fun W => frGood_yes n d W gf
  have cg := fun W => ecGood_yes a b W g
  replace cf := Lib.hid cf
  replace cg := Lib.hid cg
  rw [show (iroot d * iroot d == d) = false from by simpa using hr] at c2
  replace c2 := Lib.hid c2
  clear hr g gf
  have h := Below.refl w.heap.size w
  have hA := below_alloc1 w (.cells #[.int .i64 a, .int .i64 b] 27)
  have hxc := Box.new w 27 #[.int .i64 a, .int .i64 b]
  replace h := Below.step h hA
  clear hA
  have hA := below_alloc1 (w.alloc (.cells #[.int .i64 a, .int .i64 b] 27)) (.cells #[.int .i64 n, .int .i64 d] 40)
  have hxf := Box.new (w.alloc (.cells #[.int .i64 a, .int .i64 b] 27)) 40 #[.int .i64 n, .int .i64 d]
  rw [show (w.alloc (.cells #[.int .i64 a, .int .i64 b] 27)).heap.size = w.heap.size + 1 from by simp] at hxf
  replace h := Below.step h hA
  replace hxc := hxc.kept hA
  clear hA
  obtain ⟨kc0, kc1⟩ := hxc.two
  have lc := hxc.lt
  obtain ⟨kf0, kf1⟩ := hxf.two
  have lf := hxf.lt
  go_enter Try.func14, Try.ntmps14
  go_wp2_with fail
  refine (cg.out _).mono ?_
  rintro e w1 ⟨rfl, hb⟩
  replace h := Below.step h hb
  replace hxc := hxc.kept hb
  replace hxf := hxf.kept hb
  clear hb kc0 kc1 lc kf0 kf1 lf
  obtain ⟨kc0, kc1⟩ := hxc.two
  have lc := hxc.lt
  obtain ⟨kf0, kf1⟩ := hxf.two
  have lf := hxf.lt
  go_wp2_with fail
  refine (cf.out _).mono ?_
  rintro e w2 ⟨rfl, hb⟩
  replace h := Below.step h hb
  replace hxc := hxc.kept hb
  replace hxf := hxf.kept hb
  clear hb kc0 kc1 lc kf0 kf1 lf
  obtain ⟨kc0, kc1⟩ := hxc.two
  have lc := hxc.lt
  obtain ⟨kf0, kf1⟩ := hxf.two
  have lf := hxf.lt
  go_wp2_with fail
  refine (c2.out _).mono ?_
  rintro e w3 ⟨rfl, rfl⟩
  go_wp2_with fail
  go_ret2
  exact ⟨none, 0, rfl, ownP_nil _ _, h⟩


set_option maxHeartbeats 1000000 in
set_option maxRecDepth 100000 in
theorem atXS_e (a b n d : Int) (w : World) (g : EcG a b) (gf : FrG n d) (hr : iroot d * iroot d = d) (he : 20 < iroot d) : Calls Try.prog 14 #[.agg #[.int .i64 a, .int .i64 b], .agg #[.int .i64 n, .int .i64 d]] w (GivesPRowOk w [] false) := by
  have c2 := fun W => frSq_i d W (by have := gf.1; omega) (by have := gf.2.1; omega)
  have cf := fun W => frGood_yes n d W gf
  have cg := fun W => ecGood_yes a b W g
  replace cf := Lib.hid cf
  replace cg := Lib.hid cg
  have c3 := fun W => frRoot_i d W (by have := gf.1; omega) (by have := gf.2.1; omega)
  rw [show (iroot d * iroot d == d) = true from by simpa using hr] at c2
  generalize iroot d = E at *
  replace c2 := Lib.hid c2
  replace c3 := Lib.hid c3
  clear hr g gf
  have h := Below.refl w.heap.size w
  have hA := below_alloc1 w (.cells #[.int .i64 a, .int .i64 b] 27)
  have hxc := Box.new w 27 #[.int .i64 a, .int .i64 b]
  replace h := Below.step h hA
  clear hA
  have hA := below_alloc1 (w.alloc (.cells #[.int .i64 a, .int .i64 b] 27)) (.cells #[.int .i64 n, .int .i64 d] 40)
  have hxf := Box.new (w.alloc (.cells #[.int .i64 a, .int .i64 b] 27)) 40 #[.int .i64 n, .int .i64 d]
  rw [show (w.alloc (.cells #[.int .i64 a, .int .i64 b] 27)).heap.size = w.heap.size + 1 from by simp] at hxf
  replace h := Below.step h hA
  replace hxc := hxc.kept hA
  clear hA
  obtain ⟨kc0, kc1⟩ := hxc.two
  have lc := hxc.lt
  obtain ⟨kf0, kf1⟩ := hxf.two
  have lf := hxf.lt
  go_enter Try.func14, Try.ntmps14
  go_wp2_with fail
  refine (cg.out _).mono ?_
  rintro e w1 ⟨rfl, hb⟩
  replace h := Below.step h hb
  replace hxc := hxc.kept hb
  replace hxf := hxf.kept hb
  clear hb kc0 kc1 lc kf0 kf1 lf
  obtain ⟨kc0, kc1⟩ := hxc.two
  have lc := hxc.lt
  obtain ⟨kf0, kf1⟩ := hxf.two
  have lf := hxf.lt
  go_wp2_with fail
  refine (cf.out _).mono ?_
  rintro e w2 ⟨rfl, hb⟩
  replace h := Below.step h hb
  replace hxc := hxc.kept hb
  replace hxf := hxf.kept hb
  clear hb kc0 kc1 lc kf0 kf1 lf
  obtain ⟨kc0, kc1⟩ := hxc.two
  have lc := hxc.lt
  obtain ⟨kf0, kf1⟩ := hxf.two
  have lf := hxf.lt
  go_wp2_with fail
  refine (c2.out _).mono ?_
  rintro e w3 ⟨rfl, rfl⟩
  go_wp2_with fail
  refine (c3.out _).mono ?_
  rintro e w4 ⟨rfl, rfl⟩
  go_wp2_with fail
  go_ret2
  exact ⟨none, 0, rfl, ownP_nil _ _, h⟩


set_option maxHeartbeats 1000000 in
set_option maxRecDepth 100000 in
theorem atXS_x (a b n d : Int) (w : World) (g : EcG a b) (gf : FrG n d) (hr : iroot d * iroot d = d) (he : iroot d ≤ 20) (hx : n < -10000 ∨ 10000 < n) : Calls Try.prog 14 #[.agg #[.int .i64 a, .int .i64 b], .agg #[.int .i64 n, .int .i64 d]] w (GivesPRowOk w [] false) := by
  have c2 := fun W => frSq_i d W (by have := gf.1; omega) (by have := gf.2.1; omega)
  have cf := fun W => frGood_yes n d W gf
  have cg := fun W => ecGood_yes a b W g
  replace cf := Lib.hid cf
  replace cg := Lib.hid cg
  have c3 := fun W => frRoot_i d W (by have := gf.1; omega) (by have := gf.2.1; omega)
  rw [show (iroot d * iroot d == d) = true from by simpa using hr] at c2
  generalize iroot d = E at *
  replace c2 := Lib.hid c2
  replace c3 := Lib.hid c3
  clear hr g gf
  replace hx := Lib.hid hx
  have h := Below.refl w.heap.size w
  have hA := below_alloc1 w (.cells #[.int .i64 a, .int .i64 b] 27)
  have hxc := Box.new w 27 #[.int .i64 a, .int .i64 b]
  replace h := Below.step h hA
  clear hA
  have hA := below_alloc1 (w.alloc (.cells #[.int .i64 a, .int .i64 b] 27)) (.cells #[.int .i64 n, .int .i64 d] 40)
  have hxf := Box.new (w.alloc (.cells #[.int .i64 a, .int .i64 b] 27)) 40 #[.int .i64 n, .int .i64 d]
  rw [show (w.alloc (.cells #[.int .i64 a, .int .i64 b] 27)).heap.size = w.heap.size + 1 from by simp] at hxf
  replace h := Below.step h hA
  replace hxc := hxc.kept hA
  clear hA
  obtain ⟨kc0, kc1⟩ := hxc.two
  have lc := hxc.lt
  obtain ⟨kf0, kf1⟩ := hxf.two
  have lf := hxf.lt
  go_enter Try.func14, Try.ntmps14
  go_wp2_with fail
  refine (cg.out _).mono ?_
  rintro e w1 ⟨rfl, hb⟩
  replace h := Below.step h hb
  replace hxc := hxc.kept hb
  replace hxf := hxf.kept hb
  clear hb kc0 kc1 lc kf0 kf1 lf
  obtain ⟨kc0, kc1⟩ := hxc.two
  have lc := hxc.lt
  obtain ⟨kf0, kf1⟩ := hxf.two
  have lf := hxf.lt
  go_wp2_with fail
  refine (cf.out _).mono ?_
  rintro e w2 ⟨rfl, hb⟩
  replace h := Below.step h hb
  replace hxc := hxc.kept hb
  replace hxf := hxf.kept hb
  clear hb kc0 kc1 lc kf0 kf1 lf
  obtain ⟨kc0, kc1⟩ := hxc.two
  have lc := hxc.lt
  obtain ⟨kf0, kf1⟩ := hxf.two
  have lf := hxf.lt
  go_wp2_with fail
  refine (c2.out _).mono ?_
  rintro e w3 ⟨rfl, rfl⟩
  go_wp2_with fail
  refine (c3.out _).mono ?_
  rintro e w4 ⟨rfl, rfl⟩
  go_wp2_with fail
  refine (l1In_no n _ _ _ hx.out).mono ?_
  rintro e w5 ⟨rfl, rfl⟩
  go_wp2_with fail
  go_ret2
  exact ⟨none, 0, rfl, ownP_nil _ _, h⟩


set_option maxHeartbeats 1000000 in
set_option maxRecDepth 100000 in
theorem atXS_yes (a b n d : Int) (w : World) (g : EcG a b) (gf : FrG n d) (hr : iroot d * iroot d = d) (he : iroot d ≤ 20) (x1 : -10000 ≤ n) (x2 : n ≤ 10000) (L : List P3) (c4 : ∀ W : World, Calls Try.prog 34 #[.agg #[.int .i64 a, .int .i64 b], .int .i64 n, .int .i64 (iroot d)] W (GivesPRow W L)) : Calls Try.prog 14 #[.agg #[.int .i64 a, .int .i64 b], .agg #[.int .i64 n, .int .i64 d]] w (GivesPRowOk w L true) := by
  have c2 := fun W => frSq_i d W (by have := gf.1; omega) (by have := gf.2.1; omega)
  have cf := fun W => frGood_yes n d W gf
  have cg := fun W => ecGood_yes a b W g
  replace cf := Lib.hid cf
  replace cg := Lib.hid cg
  have c3 := fun W => frRoot_i d W (by have := gf.1; omega) (by have := gf.2.1; omega)
  rw [show (iroot d * iroot d == d) = true from by simpa using hr] at c2
  generalize iroot d = E at *
  replace c2 := Lib.hid c2
  replace c3 := Lib.hid c3
  clear hr g gf
  replace c4 := Lib.hid c4
  have h := Below.refl w.heap.size w
  have hA := below_alloc1 w (.cells #[.int .i64 a, .int .i64 b] 27)
  have hxc := Box.new w 27 #[.int .i64 a, .int .i64 b]
  replace h := Below.step h hA
  clear hA
  have hA := below_alloc1 (w.alloc (.cells #[.int .i64 a, .int .i64 b] 27)) (.cells #[.int .i64 n, .int .i64 d] 40)
  have hxf := Box.new (w.alloc (.cells #[.int .i64 a, .int .i64 b] 27)) 40 #[.int .i64 n, .int .i64 d]
  rw [show (w.alloc (.cells #[.int .i64 a, .int .i64 b] 27)).heap.size = w.heap.size + 1 from by simp] at hxf
  replace h := Below.step h hA
  replace hxc := hxc.kept hA
  clear hA
  obtain ⟨kc0, kc1⟩ := hxc.two
  have lc := hxc.lt
  obtain ⟨kf0, kf1⟩ := hxf.two
  have lf := hxf.lt
  go_enter Try.func14, Try.ntmps14
  go_wp2_with fail
  refine (cg.out _).mono ?_
  rintro e w1 ⟨rfl, hb⟩
  replace h := Below.step h hb
  replace hxc := hxc.kept hb
  replace hxf := hxf.kept hb
  clear hb kc0 kc1 lc kf0 kf1 lf
  obtain ⟨kc0, kc1⟩ := hxc.two
  have lc := hxc.lt
  obtain ⟨kf0, kf1⟩ := hxf.two
  have lf := hxf.lt
  go_wp2_with fail
  refine (cf.out _).mono ?_
  rintro e w2 ⟨rfl, hb⟩
  replace h := Below.step h hb
  replace hxc := hxc.kept hb
  replace hxf := hxf.kept hb
  clear hb kc0 kc1 lc kf0 kf1 lf
  obtain ⟨kc0, kc1⟩ := hxc.two
  have lc := hxc.lt
  obtain ⟨kf0, kf1⟩ := hxf.two
  have lf := hxf.lt
  go_wp2_with fail
  refine (c2.out _).mono ?_
  rintro e w3 ⟨rfl, rfl⟩
  go_wp2_with fail
  refine (c3.out _).mono ?_
  rintro e w4 ⟨rfl, rfl⟩
  go_wp2_with fail
  refine (l1In_yes n _ _ _ x1 x2).mono ?_
  rintro e w5 ⟨rfl, rfl⟩
  go_wp2_with fail
  have hsz := h.size
  refine (c4.out _).mono ?_
  rintro e w6 ⟨A, c, rfl, ho, hb⟩
  replace h := Below.step h hb
  replace hxc := hxc.kept hb
  replace hxf := hxf.kept hb
  clear hb kc0 kc1 lc kf0 kf1 lf
  obtain ⟨kc0, kc1⟩ := hxc.two
  have lc := hxc.lt
  obtain ⟨kf0, kf1⟩ := hxf.two
  have lf := hxf.lt
  go_wp2_with fail
  go_ret2
  exact ⟨A, c, rfl, ho.le hsz, h⟩

end Go.Proofs.Ytabcnkobojkdhaa
