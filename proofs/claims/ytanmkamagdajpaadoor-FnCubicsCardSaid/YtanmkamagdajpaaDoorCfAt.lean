/- CubicAtFraction of the model and of the program, isRootOf (written by wip/gen/cifrac.py). -/
import Derived.Test.YtanmkamagdajpaaDoorCiAt
import Derived.Test.YtanmkamagdajpaaDoorFrGood
import Derived.Test.YtanmkamagdajpaaDoorRtMath
import Derived.Deep.RegionHeld3
import Derived.Deep.DeepCutAuto
namespace Go.Proofs.YtanmkamagdajpaaDoor
open Go.RowKit Go.Joins

theorem signI_gives (a b c d n m : Int) (g : Nat) (w : World) (hx : Box w g 24 #[.int .i64 a, .int .i64 b, .int .i64 c, .int .i64 d]) (ha : -1000 ≤ a ∧ a ≤ 1000) (hb : -1000 ≤ b ∧ b ≤ 1000) (hc : -1000 ≤ c ∧ c ≤ 1000) (hd : -1000 ≤ d ∧ d ≤ 1000) (hn : -10000 ≤ n ∧ n ≤ 10000) (hm : -1000 ≤ m ∧ m ≤ 1000) (S : Int) (hS : sgn (cuVal a b c d n m) = S) :
    Calls Tryd.prog 39 #[.agg #[.func (.func 43) #[] #[.pointer (some ⟨g, 0, none⟩)]], .int .i64 n, .int .i64 m] w (GivesI w S) :=
  (signI_any a b c d n m g w hx ha hb hc hd hn hm S hS).mono fun e w' h => ⟨h.1, by rw [← h.2]; exact below_alloc1 _ _⟩

set_option maxHeartbeats 2000000 in
theorem cfAtS_yes (a b c d p q : Int) (w : World) (g : CuG a b c d) (gf : FrG p q) (hp1 : -10000 ≤ p) (hp2 : p ≤ 10000) (hq : q ≤ 1000) (R : Int) (hS : sgn (cuVal a b c d p q) = R) : Calls Tryd.prog 16 #[.agg #[.int .i64 a, .int .i64 b, .int .i64 c, .int .i64 d], .agg #[.int .i64 p, .int .i64 q]] w (GivesIB w R true) := by
  have gq := gf.1
  obtain ⟨V, hV⟩ : ∃ V, cuVal a b c d p q = V := ⟨_, rfl⟩
  have key := fun W => cuValue_any a b c d p q W g.2.1 g.2.2.1 g.2.2.2.1 g.2.2.2.2 ⟨hp1, hp2⟩ (by omega) V hV
  have kl := fun W => l1Sign_any V W
  rw [← hV, hS] at kl
  rw [hV] at kl
  replace key := Lib.hid key
  replace kl := Lib.hid kl
  clear hV hS
  have h := below_alloc2 w (.cells #[.int .i64 a, .int .i64 b, .int .i64 c, .int .i64 d] 24) (.cells #[.int .i64 p, .int .i64 q] 36)
  have hx0 := (Box.new w 24 #[.int .i64 a, .int .i64 b, .int .i64 c, .int .i64 d]).kept (below_alloc1 (w.alloc (.cells #[.int .i64 a, .int .i64 b, .int .i64 c, .int .i64 d] 24)) (.cells #[.int .i64 p, .int .i64 q] 36))
  have hx1 := Box.new (w.alloc (.cells #[.int .i64 a, .int .i64 b, .int .i64 c, .int .i64 d] 24)) 36 #[.int .i64 p, .int .i64 q]
  rw [show (w.alloc (.cells #[.int .i64 a, .int .i64 b, .int .i64 c, .int .i64 d] 24)).heap.size = w.heap.size + 1 from by simp] at hx1
  obtain ⟨k0, k1, k2, k3⟩ := hx0.four
  obtain ⟨j0, j1⟩ := hx1.two
  go_enter Tryd.func16, Tryd.ntmps16
  go_wp2_with fail
  refine (cuGood_yes a b c d _ g).mono ?_
  rintro e w1 ⟨rfl, hb⟩
  replace h := Below.step h hb
  replace hx0 := hx0.kept hb
  replace hx1 := hx1.kept hb
  clear hb k0 k1 k2 k3 j0 j1
  obtain ⟨k0, k1, k2, k3⟩ := hx0.four
  obtain ⟨j0, j1⟩ := hx1.two
  go_wp2_with fail
  refine (frGood_yes p q _ gf).mono ?_
  rintro e w2 ⟨rfl, hb⟩
  replace h := Below.step h hb
  replace hx0 := hx0.kept hb
  replace hx1 := hx1.kept hb
  clear hb k0 k1 k2 k3 j0 j1
  obtain ⟨k0, k1, k2, k3⟩ := hx0.four
  obtain ⟨j0, j1⟩ := hx1.two
  go_wp2_with fail
  refine (l1In_yes p (-10000) 10000 _ hp1 hp2).mono ?_
  rintro e w3 ⟨rfl, rfl⟩
  go_wp2_with fail
  refine (key.out _).mono ?_
  rintro e w4 ⟨rfl, hb⟩
  replace h := Below.step h hb
  replace hx0 := hx0.kept hb
  replace hx1 := hx1.kept hb
  clear hb k0 k1 k2 k3 j0 j1
  obtain ⟨k0, k1, k2, k3⟩ := hx0.four
  obtain ⟨j0, j1⟩ := hx1.two
  go_wp2_with fail
  refine (kl.out _).mono ?_
  rintro e w5 ⟨rfl, rfl⟩
  go_wp2_with fail
  go_ret2
  exact ⟨rfl, h⟩

set_option maxHeartbeats 2000000 in
theorem cfAtS_bad (a b c d p q : Int) (w : World) (g : ¬ CuG a b c d) : Calls Tryd.prog 16 #[.agg #[.int .i64 a, .int .i64 b, .int .i64 c, .int .i64 d], .agg #[.int .i64 p, .int .i64 q]] w (GivesIB w 0 false) := by
  have h := below_alloc2 w (.cells #[.int .i64 a, .int .i64 b, .int .i64 c, .int .i64 d] 24) (.cells #[.int .i64 p, .int .i64 q] 36)
  have hx0 := (Box.new w 24 #[.int .i64 a, .int .i64 b, .int .i64 c, .int .i64 d]).kept (below_alloc1 (w.alloc (.cells #[.int .i64 a, .int .i64 b, .int .i64 c, .int .i64 d] 24)) (.cells #[.int .i64 p, .int .i64 q] 36))
  have hx1 := Box.new (w.alloc (.cells #[.int .i64 a, .int .i64 b, .int .i64 c, .int .i64 d] 24)) 36 #[.int .i64 p, .int .i64 q]
  rw [show (w.alloc (.cells #[.int .i64 a, .int .i64 b, .int .i64 c, .int .i64 d] 24)).heap.size = w.heap.size + 1 from by simp] at hx1
  obtain ⟨k0, k1, k2, k3⟩ := hx0.four
  obtain ⟨j0, j1⟩ := hx1.two
  go_enter Tryd.func16, Tryd.ntmps16
  go_wp2_with fail
  refine (cuGood_no a b c d _ g).mono ?_
  rintro e w1 ⟨rfl, hb⟩
  replace h := Below.step h hb
  replace hx0 := hx0.kept hb
  replace hx1 := hx1.kept hb
  clear hb k0 k1 k2 k3 j0 j1
  obtain ⟨k0, k1, k2, k3⟩ := hx0.four
  obtain ⟨j0, j1⟩ := hx1.two
  go_wp2_with fail
  go_ret2
  exact ⟨rfl, h⟩

set_option maxHeartbeats 2000000 in
theorem cfAtS_nof (a b c d p q : Int) (w : World) (g : CuG a b c d) (gf : ¬ FrG p q) : Calls Tryd.prog 16 #[.agg #[.int .i64 a, .int .i64 b, .int .i64 c, .int .i64 d], .agg #[.int .i64 p, .int .i64 q]] w (GivesIB w 0 false) := by
  have h := below_alloc2 w (.cells #[.int .i64 a, .int .i64 b, .int .i64 c, .int .i64 d] 24) (.cells #[.int .i64 p, .int .i64 q] 36)
  have hx0 := (Box.new w 24 #[.int .i64 a, .int .i64 b, .int .i64 c, .int .i64 d]).kept (below_alloc1 (w.alloc (.cells #[.int .i64 a, .int .i64 b, .int .i64 c, .int .i64 d] 24)) (.cells #[.int .i64 p, .int .i64 q] 36))
  have hx1 := Box.new (w.alloc (.cells #[.int .i64 a, .int .i64 b, .int .i64 c, .int .i64 d] 24)) 36 #[.int .i64 p, .int .i64 q]
  rw [show (w.alloc (.cells #[.int .i64 a, .int .i64 b, .int .i64 c, .int .i64 d] 24)).heap.size = w.heap.size + 1 from by simp] at hx1
  obtain ⟨k0, k1, k2, k3⟩ := hx0.four
  obtain ⟨j0, j1⟩ := hx1.two
  go_enter Tryd.func16, Tryd.ntmps16
  go_wp2_with fail
  refine (cuGood_yes a b c d _ g).mono ?_
  rintro e w1 ⟨rfl, hb⟩
  replace h := Below.step h hb
  replace hx0 := hx0.kept hb
  replace hx1 := hx1.kept hb
  clear hb k0 k1 k2 k3 j0 j1
  obtain ⟨k0, k1, k2, k3⟩ := hx0.four
  obtain ⟨j0, j1⟩ := hx1.two
  go_wp2_with fail
  refine (frGood_no p q _ gf).mono ?_
  rintro e w2 ⟨rfl, hb⟩
  replace h := Below.step h hb
  replace hx0 := hx0.kept hb
  replace hx1 := hx1.kept hb
  clear hb k0 k1 k2 k3 j0 j1
  obtain ⟨k0, k1, k2, k3⟩ := hx0.four
  obtain ⟨j0, j1⟩ := hx1.two
  go_wp2_with fail
  go_ret2
  exact ⟨rfl, h⟩

set_option maxHeartbeats 2000000 in
theorem cfAtS_out (a b c d p q : Int) (w : World) (g : CuG a b c d) (gf : FrG p q) (hp : p < -10000 ∨ 10000 < p) : Calls Tryd.prog 16 #[.agg #[.int .i64 a, .int .i64 b, .int .i64 c, .int .i64 d], .agg #[.int .i64 p, .int .i64 q]] w (GivesIB w 0 false) := by
  have hp' := Lib.hid hp
  clear hp
  have h := below_alloc2 w (.cells #[.int .i64 a, .int .i64 b, .int .i64 c, .int .i64 d] 24) (.cells #[.int .i64 p, .int .i64 q] 36)
  have hx0 := (Box.new w 24 #[.int .i64 a, .int .i64 b, .int .i64 c, .int .i64 d]).kept (below_alloc1 (w.alloc (.cells #[.int .i64 a, .int .i64 b, .int .i64 c, .int .i64 d] 24)) (.cells #[.int .i64 p, .int .i64 q] 36))
  have hx1 := Box.new (w.alloc (.cells #[.int .i64 a, .int .i64 b, .int .i64 c, .int .i64 d] 24)) 36 #[.int .i64 p, .int .i64 q]
  rw [show (w.alloc (.cells #[.int .i64 a, .int .i64 b, .int .i64 c, .int .i64 d] 24)).heap.size = w.heap.size + 1 from by simp] at hx1
  obtain ⟨k0, k1, k2, k3⟩ := hx0.four
  obtain ⟨j0, j1⟩ := hx1.two
  go_enter Tryd.func16, Tryd.ntmps16
  go_wp2_with fail
  refine (cuGood_yes a b c d _ g).mono ?_
  rintro e w1 ⟨rfl, hb⟩
  replace h := Below.step h hb
  replace hx0 := hx0.kept hb
  replace hx1 := hx1.kept hb
  clear hb k0 k1 k2 k3 j0 j1
  obtain ⟨k0, k1, k2, k3⟩ := hx0.four
  obtain ⟨j0, j1⟩ := hx1.two
  go_wp2_with fail
  refine (frGood_yes p q _ gf).mono ?_
  rintro e w2 ⟨rfl, hb⟩
  replace h := Below.step h hb
  replace hx0 := hx0.kept hb
  replace hx1 := hx1.kept hb
  clear hb k0 k1 k2 k3 j0 j1
  obtain ⟨k0, k1, k2, k3⟩ := hx0.four
  obtain ⟨j0, j1⟩ := hx1.two
  go_wp2_with fail
  refine (l1In_no p (-10000) 10000 _ hp'.out).mono ?_
  rintro e w3 ⟨rfl, rfl⟩
  go_wp2_with fail
  go_ret2
  exact ⟨rfl, h⟩

set_option maxHeartbeats 2000000 in
theorem cfAtS_den (a b c d p q : Int) (w : World) (g : CuG a b c d) (gf : FrG p q) (hp1 : -10000 ≤ p) (hp2 : p ≤ 10000) (hq : 1000 < q) : Calls Tryd.prog 16 #[.agg #[.int .i64 a, .int .i64 b, .int .i64 c, .int .i64 d], .agg #[.int .i64 p, .int .i64 q]] w (GivesIB w 0 false) := by
  have h := below_alloc2 w (.cells #[.int .i64 a, .int .i64 b, .int .i64 c, .int .i64 d] 24) (.cells #[.int .i64 p, .int .i64 q] 36)
  have hx0 := (Box.new w 24 #[.int .i64 a, .int .i64 b, .int .i64 c, .int .i64 d]).kept (below_alloc1 (w.alloc (.cells #[.int .i64 a, .int .i64 b, .int .i64 c, .int .i64 d] 24)) (.cells #[.int .i64 p, .int .i64 q] 36))
  have hx1 := Box.new (w.alloc (.cells #[.int .i64 a, .int .i64 b, .int .i64 c, .int .i64 d] 24)) 36 #[.int .i64 p, .int .i64 q]
  rw [show (w.alloc (.cells #[.int .i64 a, .int .i64 b, .int .i64 c, .int .i64 d] 24)).heap.size = w.heap.size + 1 from by simp] at hx1
  obtain ⟨k0, k1, k2, k3⟩ := hx0.four
  obtain ⟨j0, j1⟩ := hx1.two
  go_enter Tryd.func16, Tryd.ntmps16
  go_wp2_with fail
  refine (cuGood_yes a b c d _ g).mono ?_
  rintro e w1 ⟨rfl, hb⟩
  replace h := Below.step h hb
  replace hx0 := hx0.kept hb
  replace hx1 := hx1.kept hb
  clear hb k0 k1 k2 k3 j0 j1
  obtain ⟨k0, k1, k2, k3⟩ := hx0.four
  obtain ⟨j0, j1⟩ := hx1.two
  go_wp2_with fail
  refine (frGood_yes p q _ gf).mono ?_
  rintro e w2 ⟨rfl, hb⟩
  replace h := Below.step h hb
  replace hx0 := hx0.kept hb
  replace hx1 := hx1.kept hb
  clear hb k0 k1 k2 k3 j0 j1
  obtain ⟨k0, k1, k2, k3⟩ := hx0.four
  obtain ⟨j0, j1⟩ := hx1.two
  go_wp2_with fail
  refine (l1In_yes p (-10000) 10000 _ hp1 hp2).mono ?_
  rintro e w3 ⟨rfl, rfl⟩
  go_wp2_with fail
  go_ret2
  exact ⟨rfl, h⟩

set_option maxHeartbeats 2000000 in
theorem cfAtI_yes (a b c d p q : Int) (w : World) (hL : Lim w) (g : CuG a b c d) (gf : FrG p q) (hp1 : -10000 ≤ p) (hp2 : p ≤ 10000) (hq : q ≤ 1000) (R : Int) (hS : sgn (cuVal a b c d p q) = R) : Calls Tryd.prog 15 #[.agg #[.int .i64 a, .int .i64 b, .int .i64 c, .int .i64 d], .agg #[.int .i64 p, .int .i64 q]] w (GivesIB w R true) := by
  have gq := gf.1
  have key := fun (gv : Nat) (W : World) (hx : Box W gv 24 #[.int .i64 a, .int .i64 b, .int .i64 c, .int .i64 d]) => signI_gives a b c d p q gv W hx g.2.1 g.2.2.1 g.2.2.2.1 g.2.2.2.2 ⟨hp1, hp2⟩ (by omega) R hS
  replace key := Lib.hid key
  clear hS
  have h := below_alloc2 w (.cells #[.int .i64 a, .int .i64 b, .int .i64 c, .int .i64 d] 24) (.cells #[.int .i64 p, .int .i64 q] 36)
  have hx0 := (Box.new w 24 #[.int .i64 a, .int .i64 b, .int .i64 c, .int .i64 d]).kept (below_alloc1 (w.alloc (.cells #[.int .i64 a, .int .i64 b, .int .i64 c, .int .i64 d] 24)) (.cells #[.int .i64 p, .int .i64 q] 36))
  have hx1 := Box.new (w.alloc (.cells #[.int .i64 a, .int .i64 b, .int .i64 c, .int .i64 d] 24)) 36 #[.int .i64 p, .int .i64 q]
  rw [show (w.alloc (.cells #[.int .i64 a, .int .i64 b, .int .i64 c, .int .i64 d] 24)).heap.size = w.heap.size + 1 from by simp] at hx1
  obtain ⟨k0, k1, k2, k3⟩ := hx0.four
  obtain ⟨j0, j1⟩ := hx1.two
  replace hL := hL.kept h
  go_enter Tryd.func15, Tryd.ntmps15
  go_wp2_with fail
  refine (isCubicI_yes a b c d _ g).mono ?_
  rintro e w1 ⟨rfl, hb⟩
  replace h := Below.step h hb
  replace hx0 := hx0.kept hb
  replace hx1 := hx1.kept hb
  replace hL := hL.kept hb
  clear hb k0 k1 k2 k3 j0 j1
  obtain ⟨k0, k1, k2, k3⟩ := hx0.four
  obtain ⟨j0, j1⟩ := hx1.two
  go_wp2_with fail
  refine (isFractionI_yes p q _ hL gf).mono ?_
  rintro e w2 ⟨rfl, hb⟩
  replace h := Below.step h hb
  replace hx0 := hx0.kept hb
  replace hx1 := hx1.kept hb
  replace hL := hL.kept hb
  clear hb k0 k1 k2 k3 j0 j1
  obtain ⟨k0, k1, k2, k3⟩ := hx0.four
  obtain ⟨j0, j1⟩ := hx1.two
  go_upto_region 3 with fail
  have KM : ∀ (W : World), Below w2.heap.size w2 W → (W.cell? ⟨w.heap.size, 0, none⟩ = some (.int .i64 a) ∧ W.cell? ⟨w.heap.size, 1, none⟩ = some (.int .i64 b) ∧ W.cell? ⟨w.heap.size, 2, none⟩ = some (.int .i64 c) ∧ W.cell? ⟨w.heap.size, 3, none⟩ = some (.int .i64 d) ∧ W.cell? ⟨w.heap.size + 1, 0, none⟩ = some (.int .i64 p) ∧ W.cell? ⟨w.heap.size + 1, 1, none⟩ = some (.int .i64 q) ∧ Below w2.heap.size w2 W) := fun W hW => ⟨(hx0.kept hW).four.1, (hx0.kept hW).four.2.1, (hx0.kept hW).four.2.2.1, (hx0.kept hW).four.2.2.2, (hx1.kept hW).two.1, (hx1.kept hW).two.2, hW⟩
  have KC : ∀ (W W' : World), Below W.heap.size W W' → (W.cell? ⟨w.heap.size, 0, none⟩ = some (.int .i64 a) ∧ W.cell? ⟨w.heap.size, 1, none⟩ = some (.int .i64 b) ∧ W.cell? ⟨w.heap.size, 2, none⟩ = some (.int .i64 c) ∧ W.cell? ⟨w.heap.size, 3, none⟩ = some (.int .i64 d) ∧ W.cell? ⟨w.heap.size + 1, 0, none⟩ = some (.int .i64 p) ∧ W.cell? ⟨w.heap.size + 1, 1, none⟩ = some (.int .i64 q) ∧ Below w2.heap.size w2 W) → (W'.cell? ⟨w.heap.size, 0, none⟩ = some (.int .i64 a) ∧ W'.cell? ⟨w.heap.size, 1, none⟩ = some (.int .i64 b) ∧ W'.cell? ⟨w.heap.size, 2, none⟩ = some (.int .i64 c) ∧ W'.cell? ⟨w.heap.size, 3, none⟩ = some (.int .i64 d) ∧ W'.cell? ⟨w.heap.size + 1, 0, none⟩ = some (.int .i64 p) ∧ W'.cell? ⟨w.heap.size + 1, 1, none⟩ = some (.int .i64 q) ∧ Below w2.heap.size w2 W') := fun W W' hb ⟨_, _, _, _, _, _, hW⟩ => KM _ (Below.step hW hb)
  have KB : ∀ (W : World), (W.cell? ⟨w.heap.size, 0, none⟩ = some (.int .i64 a) ∧ W.cell? ⟨w.heap.size, 1, none⟩ = some (.int .i64 b) ∧ W.cell? ⟨w.heap.size, 2, none⟩ = some (.int .i64 c) ∧ W.cell? ⟨w.heap.size, 3, none⟩ = some (.int .i64 d) ∧ W.cell? ⟨w.heap.size + 1, 0, none⟩ = some (.int .i64 p) ∧ W.cell? ⟨w.heap.size + 1, 1, none⟩ = some (.int .i64 q) ∧ Below w2.heap.size w2 W) → Below w2.heap.size w2 W := fun W ⟨_, _, _, _, _, _, hW⟩ => hW
  have KM0 := KM w2.drew ⟨rfl, rfl, rfl, Nat.le_refl _, fun _ _ => rfl⟩
  have KM00 := KM _ (Below.refl _ _)
  replace KC := Lib.hid KC
  replace KB := Lib.hid KB
  clear KM k0 k1 k2 k3 j0 j1
  go_cut [4, 5] (fun s4 s5 wx => s4 = .int .i64 R ∧ s5 = .bool true ∧ Below w2.heap.size w2 wx)
  case first =>
    go_region_held3 (fun w' => w'.cell? ⟨w.heap.size, 0, none⟩ = some (.int .i64 a) ∧ w'.cell? ⟨w.heap.size, 1, none⟩ = some (.int .i64 b) ∧ w'.cell? ⟨w.heap.size, 2, none⟩ = some (.int .i64 c) ∧ w'.cell? ⟨w.heap.size, 3, none⟩ = some (.int .i64 d) ∧ w'.cell? ⟨w.heap.size + 1, 0, none⟩ = some (.int .i64 p) ∧ w'.cell? ⟨w.heap.size + 1, 1, none⟩ = some (.int .i64 q) ∧ Below w2.heap.size w2 w') ((first | (with_reducible assumption) | ((with_reducible refine KC.out _ _ ?_ ?_); (with_reducible assumption); (with_reducible assumption))))
      (first
        | (go_at_call 23; (with_reducible refine (valuesOf_any a b c d _).mono ?_); rintro e wC ⟨gv, rfl, hv, hgv, hbC⟩; have hSC : wC.cell? ⟨w.heap.size, 0, none⟩ = some (.int .i64 a) ∧ wC.cell? ⟨w.heap.size, 1, none⟩ = some (.int .i64 b) ∧ wC.cell? ⟨w.heap.size, 2, none⟩ = some (.int .i64 c) ∧ wC.cell? ⟨w.heap.size, 3, none⟩ = some (.int .i64 d) ∧ wC.cell? ⟨w.heap.size + 1, 0, none⟩ = some (.int .i64 p) ∧ wC.cell? ⟨w.heap.size + 1, 1, none⟩ = some (.int .i64 q) ∧ Below w2.heap.size w2 wC := KC.out _ _ hbC (by assumption))
        | (go_at_call 39; (with_reducible refine (key.out _ _ ?_).mono ?_); (exact hv); rintro e wD ⟨rfl, hbD⟩; have hSD : wD.cell? ⟨w.heap.size, 0, none⟩ = some (.int .i64 a) ∧ wD.cell? ⟨w.heap.size, 1, none⟩ = some (.int .i64 b) ∧ wD.cell? ⟨w.heap.size, 2, none⟩ = some (.int .i64 c) ∧ wD.cell? ⟨w.heap.size, 3, none⟩ = some (.int .i64 d) ∧ wD.cell? ⟨w.heap.size + 1, 0, none⟩ = some (.int .i64 p) ∧ wD.cell? ⟨w.heap.size + 1, 1, none⟩ = some (.int .i64 q) ∧ Below w2.heap.size w2 wD := KC.out _ _ hbD (by assumption)))
    all_goals (go_wp2_with fail; go_meet)
    all_goals refine ⟨rfl, rfl, KB.out _ ?_⟩
    all_goals (with_reducible assumption)
  case rest =>
  obtain ⟨rfl, rfl, hbx⟩ := hcut
  replace h := Below.step h hbx
  go_wp2_with fail
  go_ret2
  exact ⟨rfl, h⟩

set_option maxHeartbeats 2000000 in
theorem cfAtI_bad (a b c d p q : Int) (w : World) (hL : Lim w) (g : ¬ CuG a b c d) : Calls Tryd.prog 15 #[.agg #[.int .i64 a, .int .i64 b, .int .i64 c, .int .i64 d], .agg #[.int .i64 p, .int .i64 q]] w (GivesIB w 0 false) := by
  have h := below_alloc2 w (.cells #[.int .i64 a, .int .i64 b, .int .i64 c, .int .i64 d] 24) (.cells #[.int .i64 p, .int .i64 q] 36)
  have hx0 := (Box.new w 24 #[.int .i64 a, .int .i64 b, .int .i64 c, .int .i64 d]).kept (below_alloc1 (w.alloc (.cells #[.int .i64 a, .int .i64 b, .int .i64 c, .int .i64 d] 24)) (.cells #[.int .i64 p, .int .i64 q] 36))
  have hx1 := Box.new (w.alloc (.cells #[.int .i64 a, .int .i64 b, .int .i64 c, .int .i64 d] 24)) 36 #[.int .i64 p, .int .i64 q]
  rw [show (w.alloc (.cells #[.int .i64 a, .int .i64 b, .int .i64 c, .int .i64 d] 24)).heap.size = w.heap.size + 1 from by simp] at hx1
  obtain ⟨k0, k1, k2, k3⟩ := hx0.four
  obtain ⟨j0, j1⟩ := hx1.two
  replace hL := hL.kept h
  go_enter Tryd.func15, Tryd.ntmps15
  go_wp2_with fail
  refine (isCubicI_no a b c d _ g).mono ?_
  rintro e w1 ⟨rfl, hb⟩
  replace h := Below.step h hb
  replace hx0 := hx0.kept hb
  replace hx1 := hx1.kept hb
  replace hL := hL.kept hb
  clear hb k0 k1 k2 k3 j0 j1
  obtain ⟨k0, k1, k2, k3⟩ := hx0.four
  obtain ⟨j0, j1⟩ := hx1.two
  go_wp2_with fail
  go_ret2
  exact ⟨rfl, h⟩

set_option maxHeartbeats 2000000 in
theorem cfAtI_nof (a b c d p q : Int) (w : World) (hL : Lim w) (g : CuG a b c d) (gf : ¬ FrG p q) : Calls Tryd.prog 15 #[.agg #[.int .i64 a, .int .i64 b, .int .i64 c, .int .i64 d], .agg #[.int .i64 p, .int .i64 q]] w (GivesIB w 0 false) := by
  have h := below_alloc2 w (.cells #[.int .i64 a, .int .i64 b, .int .i64 c, .int .i64 d] 24) (.cells #[.int .i64 p, .int .i64 q] 36)
  have hx0 := (Box.new w 24 #[.int .i64 a, .int .i64 b, .int .i64 c, .int .i64 d]).kept (below_alloc1 (w.alloc (.cells #[.int .i64 a, .int .i64 b, .int .i64 c, .int .i64 d] 24)) (.cells #[.int .i64 p, .int .i64 q] 36))
  have hx1 := Box.new (w.alloc (.cells #[.int .i64 a, .int .i64 b, .int .i64 c, .int .i64 d] 24)) 36 #[.int .i64 p, .int .i64 q]
  rw [show (w.alloc (.cells #[.int .i64 a, .int .i64 b, .int .i64 c, .int .i64 d] 24)).heap.size = w.heap.size + 1 from by simp] at hx1
  obtain ⟨k0, k1, k2, k3⟩ := hx0.four
  obtain ⟨j0, j1⟩ := hx1.two
  replace hL := hL.kept h
  go_enter Tryd.func15, Tryd.ntmps15
  go_wp2_with fail
  refine (isCubicI_yes a b c d _ g).mono ?_
  rintro e w1 ⟨rfl, hb⟩
  replace h := Below.step h hb
  replace hx0 := hx0.kept hb
  replace hx1 := hx1.kept hb
  replace hL := hL.kept hb
  clear hb k0 k1 k2 k3 j0 j1
  obtain ⟨k0, k1, k2, k3⟩ := hx0.four
  obtain ⟨j0, j1⟩ := hx1.two
  go_wp2_with fail
  refine (isFractionI_no p q _ hL gf).mono ?_
  rintro e w2 ⟨rfl, hb⟩
  replace h := Below.step h hb
  replace hx0 := hx0.kept hb
  replace hx1 := hx1.kept hb
  replace hL := hL.kept hb
  clear hb k0 k1 k2 k3 j0 j1
  obtain ⟨k0, k1, k2, k3⟩ := hx0.four
  obtain ⟨j0, j1⟩ := hx1.two
  go_wp2_with fail
  go_ret2
  exact ⟨rfl, h⟩

set_option maxHeartbeats 2000000 in
theorem cfAtI_low (a b c d p q : Int) (w : World) (hL : Lim w) (g : CuG a b c d) (gf : FrG p q) (hp : p < -10000) : Calls Tryd.prog 15 #[.agg #[.int .i64 a, .int .i64 b, .int .i64 c, .int .i64 d], .agg #[.int .i64 p, .int .i64 q]] w (GivesIB w 0 false) := by
  have h := below_alloc2 w (.cells #[.int .i64 a, .int .i64 b, .int .i64 c, .int .i64 d] 24) (.cells #[.int .i64 p, .int .i64 q] 36)
  have hx0 := (Box.new w 24 #[.int .i64 a, .int .i64 b, .int .i64 c, .int .i64 d]).kept (below_alloc1 (w.alloc (.cells #[.int .i64 a, .int .i64 b, .int .i64 c, .int .i64 d] 24)) (.cells #[.int .i64 p, .int .i64 q] 36))
  have hx1 := Box.new (w.alloc (.cells #[.int .i64 a, .int .i64 b, .int .i64 c, .int .i64 d] 24)) 36 #[.int .i64 p, .int .i64 q]
  rw [show (w.alloc (.cells #[.int .i64 a, .int .i64 b, .int .i64 c, .int .i64 d] 24)).heap.size = w.heap.size + 1 from by simp] at hx1
  obtain ⟨k0, k1, k2, k3⟩ := hx0.four
  obtain ⟨j0, j1⟩ := hx1.two
  replace hL := hL.kept h
  go_enter Tryd.func15, Tryd.ntmps15
  go_wp2_with fail
  refine (isCubicI_yes a b c d _ g).mono ?_
  rintro e w1 ⟨rfl, hb⟩
  replace h := Below.step h hb
  replace hx0 := hx0.kept hb
  replace hx1 := hx1.kept hb
  replace hL := hL.kept hb
  clear hb k0 k1 k2 k3 j0 j1
  obtain ⟨k0, k1, k2, k3⟩ := hx0.four
  obtain ⟨j0, j1⟩ := hx1.two
  go_wp2_with fail
  refine (isFractionI_yes p q _ hL gf).mono ?_
  rintro e w2 ⟨rfl, hb⟩
  replace h := Below.step h hb
  replace hx0 := hx0.kept hb
  replace hx1 := hx1.kept hb
  replace hL := hL.kept hb
  clear hb k0 k1 k2 k3 j0 j1
  obtain ⟨k0, k1, k2, k3⟩ := hx0.four
  obtain ⟨j0, j1⟩ := hx1.two
  go_wp2_with fail
  go_ret2
  exact ⟨rfl, h⟩

set_option maxHeartbeats 2000000 in
theorem cfAtI_high (a b c d p q : Int) (w : World) (hL : Lim w) (g : CuG a b c d) (gf : FrG p q) (hp : 10000 < p) : Calls Tryd.prog 15 #[.agg #[.int .i64 a, .int .i64 b, .int .i64 c, .int .i64 d], .agg #[.int .i64 p, .int .i64 q]] w (GivesIB w 0 false) := by
  have h := below_alloc2 w (.cells #[.int .i64 a, .int .i64 b, .int .i64 c, .int .i64 d] 24) (.cells #[.int .i64 p, .int .i64 q] 36)
  have hx0 := (Box.new w 24 #[.int .i64 a, .int .i64 b, .int .i64 c, .int .i64 d]).kept (below_alloc1 (w.alloc (.cells #[.int .i64 a, .int .i64 b, .int .i64 c, .int .i64 d] 24)) (.cells #[.int .i64 p, .int .i64 q] 36))
  have hx1 := Box.new (w.alloc (.cells #[.int .i64 a, .int .i64 b, .int .i64 c, .int .i64 d] 24)) 36 #[.int .i64 p, .int .i64 q]
  rw [show (w.alloc (.cells #[.int .i64 a, .int .i64 b, .int .i64 c, .int .i64 d] 24)).heap.size = w.heap.size + 1 from by simp] at hx1
  obtain ⟨k0, k1, k2, k3⟩ := hx0.four
  obtain ⟨j0, j1⟩ := hx1.two
  replace hL := hL.kept h
  go_enter Tryd.func15, Tryd.ntmps15
  go_wp2_with fail
  refine (isCubicI_yes a b c d _ g).mono ?_
  rintro e w1 ⟨rfl, hb⟩
  replace h := Below.step h hb
  replace hx0 := hx0.kept hb
  replace hx1 := hx1.kept hb
  replace hL := hL.kept hb
  clear hb k0 k1 k2 k3 j0 j1
  obtain ⟨k0, k1, k2, k3⟩ := hx0.four
  obtain ⟨j0, j1⟩ := hx1.two
  go_wp2_with fail
  refine (isFractionI_yes p q _ hL gf).mono ?_
  rintro e w2 ⟨rfl, hb⟩
  replace h := Below.step h hb
  replace hx0 := hx0.kept hb
  replace hx1 := hx1.kept hb
  replace hL := hL.kept hb
  clear hb k0 k1 k2 k3 j0 j1
  obtain ⟨k0, k1, k2, k3⟩ := hx0.four
  obtain ⟨j0, j1⟩ := hx1.two
  go_wp2_with fail
  go_ret2
  exact ⟨rfl, h⟩

set_option maxHeartbeats 2000000 in
theorem cfAtI_den (a b c d p q : Int) (w : World) (hL : Lim w) (g : CuG a b c d) (gf : FrG p q) (hp1 : -10000 ≤ p) (hp2 : p ≤ 10000) (hq : 1000 < q) : Calls Tryd.prog 15 #[.agg #[.int .i64 a, .int .i64 b, .int .i64 c, .int .i64 d], .agg #[.int .i64 p, .int .i64 q]] w (GivesIB w 0 false) := by
  have h := below_alloc2 w (.cells #[.int .i64 a, .int .i64 b, .int .i64 c, .int .i64 d] 24) (.cells #[.int .i64 p, .int .i64 q] 36)
  have hx0 := (Box.new w 24 #[.int .i64 a, .int .i64 b, .int .i64 c, .int .i64 d]).kept (below_alloc1 (w.alloc (.cells #[.int .i64 a, .int .i64 b, .int .i64 c, .int .i64 d] 24)) (.cells #[.int .i64 p, .int .i64 q] 36))
  have hx1 := Box.new (w.alloc (.cells #[.int .i64 a, .int .i64 b, .int .i64 c, .int .i64 d] 24)) 36 #[.int .i64 p, .int .i64 q]
  rw [show (w.alloc (.cells #[.int .i64 a, .int .i64 b, .int .i64 c, .int .i64 d] 24)).heap.size = w.heap.size + 1 from by simp] at hx1
  obtain ⟨k0, k1, k2, k3⟩ := hx0.four
  obtain ⟨j0, j1⟩ := hx1.two
  replace hL := hL.kept h
  go_enter Tryd.func15, Tryd.ntmps15
  go_wp2_with fail
  refine (isCubicI_yes a b c d _ g).mono ?_
  rintro e w1 ⟨rfl, hb⟩
  replace h := Below.step h hb
  replace hx0 := hx0.kept hb
  replace hx1 := hx1.kept hb
  replace hL := hL.kept hb
  clear hb k0 k1 k2 k3 j0 j1
  obtain ⟨k0, k1, k2, k3⟩ := hx0.four
  obtain ⟨j0, j1⟩ := hx1.two
  go_wp2_with fail
  refine (isFractionI_yes p q _ hL gf).mono ?_
  rintro e w2 ⟨rfl, hb⟩
  replace h := Below.step h hb
  replace hx0 := hx0.kept hb
  replace hx1 := hx1.kept hb
  replace hL := hL.kept hb
  clear hb k0 k1 k2 k3 j0 j1
  obtain ⟨k0, k1, k2, k3⟩ := hx0.four
  obtain ⟨j0, j1⟩ := hx1.two
  go_wp2_with fail
  go_ret2
  exact ⟨rfl, h⟩

/-- What both hand back: the sign at a fraction in range. -/
def CfG (a b c d p q : Int) : Prop := CuG a b c d ∧ FrG p q ∧ (-10000 ≤ p ∧ p ≤ 10000) ∧ q ≤ 1000
instance (a b c d p q : Int) : Decidable (CfG a b c d p q) := by unfold CfG; infer_instance
def cfR (a b c d p q : Int) : Int := if CfG a b c d p q then sgn (cuVal a b c d p q) else 0
theorem cfAtS_any (a b c d p q : Int) (w : World) : Calls Tryd.prog 16 #[.agg #[.int .i64 a, .int .i64 b, .int .i64 c, .int .i64 d], .agg #[.int .i64 p, .int .i64 q]] w (GivesIB w (cfR a b c d p q) (decide (CfG a b c d p q))) := by
  unfold cfR
  by_cases k : CfG a b c d p q
  · rw [if_pos k, decide_eq_true k]
    exact cfAtS_yes a b c d p q w k.1 k.2.1 k.2.2.1.1 k.2.2.1.2 k.2.2.2 _ rfl
  · rw [if_neg k, decide_eq_false k]
    by_cases g : CuG a b c d
    · by_cases gf : FrG p q
      · by_cases hp : p < -10000 ∨ 10000 < p
        · exact cfAtS_out a b c d p q w g gf hp
        · exact cfAtS_den a b c d p q w g gf (by omega) (by omega) (by have : ¬ q ≤ 1000 := fun hq => k ⟨g, gf, by omega, hq⟩; omega)
      · exact cfAtS_nof a b c d p q w g gf
    · exact cfAtS_bad a b c d p q w g
theorem cfAtI_any (a b c d p q : Int) (w : World) (hL : Lim w) : Calls Tryd.prog 15 #[.agg #[.int .i64 a, .int .i64 b, .int .i64 c, .int .i64 d], .agg #[.int .i64 p, .int .i64 q]] w (GivesIB w (cfR a b c d p q) (decide (CfG a b c d p q))) := by
  unfold cfR
  by_cases k : CfG a b c d p q
  · rw [if_pos k, decide_eq_true k]
    exact cfAtI_yes a b c d p q w hL k.1 k.2.1 k.2.2.1.1 k.2.2.1.2 k.2.2.2 _ rfl
  · rw [if_neg k, decide_eq_false k]
    by_cases g : CuG a b c d
    · by_cases gf : FrG p q
      · by_cases hp : p < -10000
        · exact cfAtI_low a b c d p q w hL g gf hp
        · by_cases hp2 : 10000 < p
          · exact cfAtI_high a b c d p q w hL g gf hp2
          · exact cfAtI_den a b c d p q w hL g gf (by omega) (by omega) (by have : ¬ q ≤ 1000 := fun hq => k ⟨g, gf, by omega, hq⟩; omega)
      · exact cfAtI_nof a b c d p q w hL g gf
    · exact cfAtI_bad a b c d p q w hL g
end Go.Proofs.YtanmkamagdajpaaDoor
