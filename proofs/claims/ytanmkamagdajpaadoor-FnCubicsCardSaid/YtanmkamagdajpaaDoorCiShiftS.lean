/- ShiftCubic, the model's (written by wip/gen/cishift.py). -/
import Derived.Test.YtanmkamagdajpaaDoorCiAbs
import Derived.Deep.RegionHeld3
import Derived.Deep.DeepCutAuto
namespace Go.Proofs.YtanmkamagdajpaaDoor
open Go.RowKit Go.Joins

/-- What a shifted coefficient comes to on the way. -/
theorem shift_bd {a b y : Int} (ha : -1000 ≤ a ∧ a ≤ 1000) (hb : -1000 ≤ b ∧ b ≤ 1000) (hy : -10 ≤ y ∧ y ≤ 10) :
    (-30000 ≤ 3 * a * y ∧ 3 * a * y ≤ 30000) ∧ (-300000 ≤ 3 * a * y * y ∧ 3 * a * y * y ≤ 300000) ∧ (-20000 ≤ 2 * b * y ∧ 2 * b * y ≤ 20000) ∧ (-320000 ≤ (3 * a * y + 2 * b) * y ∧ (3 * a * y + 2 * b) * y ≤ 320000) := by
  have q1 := fr_mul_bd (a := 3 * a) (M := 3000) (by omega) (by omega) hy.1 hy.2
  have q2 := fr_mul_bd (a := 3 * a * y) (M := 30000) (by omega) (by omega) hy.1 hy.2
  have q3 := fr_mul_bd (a := 2 * b) (M := 2000) (by omega) (by omega) hy.1 hy.2
  have q4 := fr_mul_bd (a := 3 * a * y + 2 * b) (M := 32000) (by omega) (by omega) hy.1 hy.2
  refine ⟨by omega, by omega, by omega, by omega⟩

set_option maxHeartbeats 4000000 in
set_option maxRecDepth 100000 in
theorem shiftS_yes (a b c d y B E V : Int) (w : World) (g : CuG a b c d) (hy1 : -10 ≤ y) (hy2 : y ≤ 10) (hB : 3 * a * y + b = B) (hE : 3 * a * y * y + 2 * b * y + c = E) (hV : cuVal a b c d y 1 = V) (g2 : CuG a B E V) :
    Calls Tryd.prog 6 #[.agg #[.int .i64 a, .int .i64 b, .int .i64 c, .int .i64 d], .int .i64 y] w (GivesCB w a B E V true) := by
  obtain ⟨⟨p1, p2⟩, ⟨p3, p4⟩, ⟨p5, p6⟩, ⟨p7, p8⟩⟩ := shift_bd g.2.1 g.2.2.1 ⟨hy1, hy2⟩
  obtain ⟨-, ⟨a1, a2⟩, ⟨b1, b2⟩, ⟨c1, c2⟩, ⟨d1, d2⟩⟩ := id g
  have v1 : IntKind.i64.wrap (3 * a) = 3 * a := IntWalk.i64_in _ (by omega)
  have v2 : IntKind.i64.wrap (3 * a * y) = 3 * a * y := IntWalk.i64_in _ (by omega)
  have v3 : IntKind.i64.wrap (3 * a * y + b) = B := by rw [hB]; exact IntWalk.i64_in _ (by omega)
  have v4 : IntKind.i64.wrap (2 * b) = 2 * b := IntWalk.i64_in _ (by omega)
  have v5 : IntKind.i64.wrap (3 * a * y * y) = 3 * a * y * y := IntWalk.i64_in _ (by omega)
  have v6 : IntKind.i64.wrap (2 * b * y) = 2 * b * y := IntWalk.i64_in _ (by omega)
  have v7 : IntKind.i64.wrap (3 * a * y * y + 2 * b * y) = 3 * a * y * y + 2 * b * y := IntWalk.i64_in _ (by omega)
  have v8 : IntKind.i64.wrap (3 * a * y * y + 2 * b * y + c) = E := by rw [hE]; exact IntWalk.i64_in _ (by omega)
  have key := fun W => cuValue_any a b c d y 1 W g.2.1 g.2.2.1 g.2.2.2.1 g.2.2.2.2 (by omega) (by omega) V hV
  replace key := Lib.hid key
  clear hB hE hV
  have h := below_alloc1 w (.cells #[.int .i64 a, .int .i64 b, .int .i64 c, .int .i64 d] 24)
  have hx0 := Box.new w 24 #[.int .i64 a, .int .i64 b, .int .i64 c, .int .i64 d]
  have hA := below_alloc1 (w.alloc (.cells #[.int .i64 a, .int .i64 b, .int .i64 c, .int .i64 d] 24)) (.cells #[.int .i64 0, .int .i64 0, .int .i64 0, .int .i64 0] 24)
  have hxr := Box.new (w.alloc (.cells #[.int .i64 a, .int .i64 b, .int .i64 c, .int .i64 d] 24)) 24 #[.int .i64 0, .int .i64 0, .int .i64 0, .int .i64 0]
  rw [show (w.alloc (.cells #[.int .i64 a, .int .i64 b, .int .i64 c, .int .i64 d] 24)).heap.size = w.heap.size + 1 from by simp] at hxr
  replace h := Below.step h hA
  replace hx0 := hx0.kept hA
  clear hA
  obtain ⟨k0, k1, k2, k3⟩ := hx0.four
  go_enter Tryd.func6, Tryd.ntmps6
  go_wp2_with fail
  refine (cuGood_yes a b c d _ g).mono ?_
  rintro e w1 ⟨rfl, hb⟩
  replace h := Below.step h hb
  replace hx0 := hx0.kept hb
  replace hxr := hxr.kept hb
  clear hb k0 k1 k2 k3
  obtain ⟨k0, k1, k2, k3⟩ := hx0.four
  go_wp2_with fail
  refine (l1In_yes y (-10) 10 _ hy1 hy2).mono ?_
  rintro e w2 ⟨rfl, rfl⟩
  go_upto_region 3 with fail
  clear g
  have KM : ∀ (W : World), Below w1.heap.size w1 W → (W.cell? ⟨w.heap.size, 0, none⟩ = some (.int .i64 a) ∧ W.cell? ⟨w.heap.size, 1, none⟩ = some (.int .i64 b) ∧ W.cell? ⟨w.heap.size, 2, none⟩ = some (.int .i64 c) ∧ W.cell? ⟨w.heap.size, 3, none⟩ = some (.int .i64 d) ∧ Below w1.heap.size w1 W) := fun W hW => ⟨(hx0.kept hW).four.1, (hx0.kept hW).four.2.1, (hx0.kept hW).four.2.2.1, (hx0.kept hW).four.2.2.2, hW⟩
  have KA : ∀ (W : World) (o : Obj), (W.cell? ⟨w.heap.size, 0, none⟩ = some (.int .i64 a) ∧ W.cell? ⟨w.heap.size, 1, none⟩ = some (.int .i64 b) ∧ W.cell? ⟨w.heap.size, 2, none⟩ = some (.int .i64 c) ∧ W.cell? ⟨w.heap.size, 3, none⟩ = some (.int .i64 d) ∧ Below w1.heap.size w1 W) → ((W.alloc o).cell? ⟨w.heap.size, 0, none⟩ = some (.int .i64 a) ∧ (W.alloc o).cell? ⟨w.heap.size, 1, none⟩ = some (.int .i64 b) ∧ (W.alloc o).cell? ⟨w.heap.size, 2, none⟩ = some (.int .i64 c) ∧ (W.alloc o).cell? ⟨w.heap.size, 3, none⟩ = some (.int .i64 d) ∧ Below w1.heap.size w1 (W.alloc o)) := fun W o ⟨_, _, _, _, hW⟩ => KM _ (Below.step hW (below_alloc1 _ _))
  have KS : ∀ (W : World) (g : Nat) (u0 u1 u2 u3 : Value), w1.heap.size ≤ g → (W.cell? ⟨w.heap.size, 0, none⟩ = some (.int .i64 a) ∧ W.cell? ⟨w.heap.size, 1, none⟩ = some (.int .i64 b) ∧ W.cell? ⟨w.heap.size, 2, none⟩ = some (.int .i64 c) ∧ W.cell? ⟨w.heap.size, 3, none⟩ = some (.int .i64 d) ∧ Below w1.heap.size w1 W) → (((((W.setCell ⟨g, 0, none⟩ u0).setCell ⟨g, 1, none⟩ u1).setCell ⟨g, 2, none⟩ u2).setCell ⟨g, 3, none⟩ u3).cell? ⟨w.heap.size, 0, none⟩ = some (.int .i64 a) ∧ ((((W.setCell ⟨g, 0, none⟩ u0).setCell ⟨g, 1, none⟩ u1).setCell ⟨g, 2, none⟩ u2).setCell ⟨g, 3, none⟩ u3).cell? ⟨w.heap.size, 1, none⟩ = some (.int .i64 b) ∧ ((((W.setCell ⟨g, 0, none⟩ u0).setCell ⟨g, 1, none⟩ u1).setCell ⟨g, 2, none⟩ u2).setCell ⟨g, 3, none⟩ u3).cell? ⟨w.heap.size, 2, none⟩ = some (.int .i64 c) ∧ ((((W.setCell ⟨g, 0, none⟩ u0).setCell ⟨g, 1, none⟩ u1).setCell ⟨g, 2, none⟩ u2).setCell ⟨g, 3, none⟩ u3).cell? ⟨w.heap.size, 3, none⟩ = some (.int .i64 d) ∧ Below w1.heap.size w1 ((((W.setCell ⟨g, 0, none⟩ u0).setCell ⟨g, 1, none⟩ u1).setCell ⟨g, 2, none⟩ u2).setCell ⟨g, 3, none⟩ u3)) := fun W g u0 u1 u2 u3 hg ⟨_, _, _, _, hW⟩ => KM _ ((((hW.setCell hg _).setCell hg _).setCell hg _).setCell hg _)
  have KC : ∀ (W W' : World), Below W.heap.size W W' → (W.cell? ⟨w.heap.size, 0, none⟩ = some (.int .i64 a) ∧ W.cell? ⟨w.heap.size, 1, none⟩ = some (.int .i64 b) ∧ W.cell? ⟨w.heap.size, 2, none⟩ = some (.int .i64 c) ∧ W.cell? ⟨w.heap.size, 3, none⟩ = some (.int .i64 d) ∧ Below w1.heap.size w1 W) → (W'.cell? ⟨w.heap.size, 0, none⟩ = some (.int .i64 a) ∧ W'.cell? ⟨w.heap.size, 1, none⟩ = some (.int .i64 b) ∧ W'.cell? ⟨w.heap.size, 2, none⟩ = some (.int .i64 c) ∧ W'.cell? ⟨w.heap.size, 3, none⟩ = some (.int .i64 d) ∧ Below w1.heap.size w1 W') := fun W W' hb ⟨_, _, _, _, hW⟩ => KM _ (Below.step hW hb)
  have KD : ∀ (W : World), (W.cell? ⟨w.heap.size, 0, none⟩ = some (.int .i64 a) ∧ W.cell? ⟨w.heap.size, 1, none⟩ = some (.int .i64 b) ∧ W.cell? ⟨w.heap.size, 2, none⟩ = some (.int .i64 c) ∧ W.cell? ⟨w.heap.size, 3, none⟩ = some (.int .i64 d) ∧ Below w1.heap.size w1 W) → (W.drew.cell? ⟨w.heap.size, 0, none⟩ = some (.int .i64 a) ∧ W.drew.cell? ⟨w.heap.size, 1, none⟩ = some (.int .i64 b) ∧ W.drew.cell? ⟨w.heap.size, 2, none⟩ = some (.int .i64 c) ∧ W.drew.cell? ⟨w.heap.size, 3, none⟩ = some (.int .i64 d) ∧ Below w1.heap.size w1 W.drew) := fun W ⟨_, _, _, _, hW⟩ => KM _ (below_drew hW)
  have KB : ∀ (W : World), (W.cell? ⟨w.heap.size, 0, none⟩ = some (.int .i64 a) ∧ W.cell? ⟨w.heap.size, 1, none⟩ = some (.int .i64 b) ∧ W.cell? ⟨w.heap.size, 2, none⟩ = some (.int .i64 c) ∧ W.cell? ⟨w.heap.size, 3, none⟩ = some (.int .i64 d) ∧ Below w1.heap.size w1 W) → Below w1.heap.size w1 W := fun W ⟨_, _, _, _, hW⟩ => hW
  have KM0 := KM w1.drew ⟨rfl, rfl, rfl, Nat.le_refl _, fun _ _ => rfl⟩
  have KM00 := KM _ (Below.refl _ _)
  replace KA := Lib.hid KA
  replace KS := Lib.hid KS
  replace KC := Lib.hid KC
  replace KB := Lib.hid KB
  replace KD := Lib.hid KD
  clear KM k0 k1 k2 k3
  go_cut [6] (fun s6 wx => ∃ gs, s6 = .pointer (some ⟨gs, 0, none⟩) ∧ Box wx gs 24 #[.int .i64 a, .int .i64 B, .int .i64 E, .int .i64 V] ∧ Below w1.heap.size w1 wx)
  case first =>
    go_region_held3 (fun w' => w'.cell? ⟨w.heap.size, 0, none⟩ = some (.int .i64 a) ∧ w'.cell? ⟨w.heap.size, 1, none⟩ = some (.int .i64 b) ∧ w'.cell? ⟨w.heap.size, 2, none⟩ = some (.int .i64 c) ∧ w'.cell? ⟨w.heap.size, 3, none⟩ = some (.int .i64 d) ∧ Below w1.heap.size w1 w') ((first | (with_reducible assumption) | ((with_reducible refine KA.out _ _ ?_); (with_reducible assumption)) | ((with_reducible refine KC.out _ _ ?_ ?_); (with_reducible assumption); (with_reducible assumption)) | ((with_reducible refine KS.out _ _ _ _ _ _ ?_ ?_); (first | exact Nat.le_refl _ | exact hsA | fail); (first | (with_reducible assumption) | ((with_reducible refine KA.out _ _ ?_); (with_reducible assumption)))) | ((with_reducible refine KD.out _ ?_); (first | (with_reducible assumption) | ((with_reducible refine KA.out _ _ ?_); (with_reducible assumption)) | ((with_reducible refine KC.out _ _ ?_ ?_); (with_reducible assumption); (with_reducible assumption)) | ((with_reducible refine KS.out _ _ _ _ _ _ ?_ ?_); (first | exact Nat.le_refl _ | exact hsA | fail); (first | (with_reducible assumption) | ((with_reducible refine KA.out _ _ ?_); (with_reducible assumption))))))))
      (first
        | (go_at_call 27; (with_reducible refine (key.out _).mono ?_); rintro e wC ⟨rfl, hbC⟩; have hSC : wC.cell? ⟨w.heap.size, 0, none⟩ = some (.int .i64 a) ∧ wC.cell? ⟨w.heap.size, 1, none⟩ = some (.int .i64 b) ∧ wC.cell? ⟨w.heap.size, 2, none⟩ = some (.int .i64 c) ∧ wC.cell? ⟨w.heap.size, 3, none⟩ = some (.int .i64 d) ∧ Below w1.heap.size w1 wC := KC.out _ _ hbC (by assumption); (first | (have hgC := (Box.new w1 24 #[.int .i64 0, .int .i64 0, .int .i64 0, .int .i64 0]).kept (w' := wC) ⟨hbC.os, hbC.tape, hbC.output, hbC.size, hbC.block⟩; obtain ⟨u0, u1, u2, u3⟩ := hgC.four; have x0 := hgC.free 0; have x1 := hgC.free 1; have x2 := hgC.free 2; have x3 := hgC.free 3; have lC := hgC.lt) | skip); have hsA : w1.heap.size ≤ w1.heap.size := Nat.le_refl _))
    all_goals (go_wp2_with fail; go_meet)
    all_goals refine ⟨_, rfl, ?_, KB.out _ ?_⟩
    all_goals (first
      | (with_reducible assumption)
      | (with_reducible exact Box.new _ _ _)
      | exact (((hgC.set 0 _).set 1 _).set 2 _).set 3 _)
  case rest =>
  obtain ⟨gs, rfl, hs, hbx⟩ := hcut
  clear KA KS KC KB KD KM0 KM00
  replace h := Below.step h hbx
  replace hxr := hxr.kept hbx
  clear hbx hx0
  obtain ⟨k0, k1, k2, k3⟩ := hs.four
  go_wp2_with fail
  refine (cuGood_yes a B E V _ g2).mono ?_
  rintro e w5 ⟨rfl, hb⟩
  replace h := Below.step h hb
  replace hs := hs.kept hb
  replace hxr := hxr.kept hb
  clear hb k0 k1 k2 k3
  obtain ⟨k0, k1, k2, k3⟩ := hs.four
  obtain ⟨r0, r1, r2, r3⟩ := hxr.four
  have f0 := hxr.free 0
  have f1 := hxr.free 1
  have f2 := hxr.free 2
  have f3 := hxr.free 3
  have lr := hxr.lt
  obtain ⟨s0, s1, s2, s3⟩ := ((((hxr.set 0 (.int .i64 a)).set 1 (.int .i64 B)).set 2 (.int .i64 E)).set 3 (.int .i64 V)).four
  go_wp2_with fail
  refine bodyPost_ret (v := .tuple #[.agg #[.int .i64 a, .int .i64 B, .int .i64 E, .int .i64 V], .bool true]) (by simp [results, Tryd.results6, go_sem, s0, s1, s2, s3]) (by rfl) ⟨by rfl, ?_⟩
  exact below_sets4 h (Nat.le_succ _) _ _ _ _

set_option maxHeartbeats 4000000 in
set_option maxRecDepth 100000 in
theorem shiftS_no (a b c d y B E V : Int) (w : World) (g : CuG a b c d) (hy1 : -10 ≤ y) (hy2 : y ≤ 10) (hB : 3 * a * y + b = B) (hE : 3 * a * y * y + 2 * b * y + c = E) (hV : cuVal a b c d y 1 = V) (g2 : ¬ CuG a B E V) :
    Calls Tryd.prog 6 #[.agg #[.int .i64 a, .int .i64 b, .int .i64 c, .int .i64 d], .int .i64 y] w (GivesCB w 0 0 0 0 false) := by
  obtain ⟨⟨p1, p2⟩, ⟨p3, p4⟩, ⟨p5, p6⟩, ⟨p7, p8⟩⟩ := shift_bd g.2.1 g.2.2.1 ⟨hy1, hy2⟩
  obtain ⟨-, ⟨a1, a2⟩, ⟨b1, b2⟩, ⟨c1, c2⟩, ⟨d1, d2⟩⟩ := id g
  have v1 : IntKind.i64.wrap (3 * a) = 3 * a := IntWalk.i64_in _ (by omega)
  have v2 : IntKind.i64.wrap (3 * a * y) = 3 * a * y := IntWalk.i64_in _ (by omega)
  have v3 : IntKind.i64.wrap (3 * a * y + b) = B := by rw [hB]; exact IntWalk.i64_in _ (by omega)
  have v4 : IntKind.i64.wrap (2 * b) = 2 * b := IntWalk.i64_in _ (by omega)
  have v5 : IntKind.i64.wrap (3 * a * y * y) = 3 * a * y * y := IntWalk.i64_in _ (by omega)
  have v6 : IntKind.i64.wrap (2 * b * y) = 2 * b * y := IntWalk.i64_in _ (by omega)
  have v7 : IntKind.i64.wrap (3 * a * y * y + 2 * b * y) = 3 * a * y * y + 2 * b * y := IntWalk.i64_in _ (by omega)
  have v8 : IntKind.i64.wrap (3 * a * y * y + 2 * b * y + c) = E := by rw [hE]; exact IntWalk.i64_in _ (by omega)
  have key := fun W => cuValue_any a b c d y 1 W g.2.1 g.2.2.1 g.2.2.2.1 g.2.2.2.2 (by omega) (by omega) V hV
  replace key := Lib.hid key
  clear hB hE hV
  have h := below_alloc1 w (.cells #[.int .i64 a, .int .i64 b, .int .i64 c, .int .i64 d] 24)
  have hx0 := Box.new w 24 #[.int .i64 a, .int .i64 b, .int .i64 c, .int .i64 d]
  have hA := below_alloc1 (w.alloc (.cells #[.int .i64 a, .int .i64 b, .int .i64 c, .int .i64 d] 24)) (.cells #[.int .i64 0, .int .i64 0, .int .i64 0, .int .i64 0] 24)
  have hxr := Box.new (w.alloc (.cells #[.int .i64 a, .int .i64 b, .int .i64 c, .int .i64 d] 24)) 24 #[.int .i64 0, .int .i64 0, .int .i64 0, .int .i64 0]
  rw [show (w.alloc (.cells #[.int .i64 a, .int .i64 b, .int .i64 c, .int .i64 d] 24)).heap.size = w.heap.size + 1 from by simp] at hxr
  replace h := Below.step h hA
  replace hx0 := hx0.kept hA
  clear hA
  obtain ⟨k0, k1, k2, k3⟩ := hx0.four
  go_enter Tryd.func6, Tryd.ntmps6
  go_wp2_with fail
  refine (cuGood_yes a b c d _ g).mono ?_
  rintro e w1 ⟨rfl, hb⟩
  replace h := Below.step h hb
  replace hx0 := hx0.kept hb
  replace hxr := hxr.kept hb
  clear hb k0 k1 k2 k3
  obtain ⟨k0, k1, k2, k3⟩ := hx0.four
  go_wp2_with fail
  refine (l1In_yes y (-10) 10 _ hy1 hy2).mono ?_
  rintro e w2 ⟨rfl, rfl⟩
  go_upto_region 3 with fail
  clear g
  have KM : ∀ (W : World), Below w1.heap.size w1 W → (W.cell? ⟨w.heap.size, 0, none⟩ = some (.int .i64 a) ∧ W.cell? ⟨w.heap.size, 1, none⟩ = some (.int .i64 b) ∧ W.cell? ⟨w.heap.size, 2, none⟩ = some (.int .i64 c) ∧ W.cell? ⟨w.heap.size, 3, none⟩ = some (.int .i64 d) ∧ Below w1.heap.size w1 W) := fun W hW => ⟨(hx0.kept hW).four.1, (hx0.kept hW).four.2.1, (hx0.kept hW).four.2.2.1, (hx0.kept hW).four.2.2.2, hW⟩
  have KA : ∀ (W : World) (o : Obj), (W.cell? ⟨w.heap.size, 0, none⟩ = some (.int .i64 a) ∧ W.cell? ⟨w.heap.size, 1, none⟩ = some (.int .i64 b) ∧ W.cell? ⟨w.heap.size, 2, none⟩ = some (.int .i64 c) ∧ W.cell? ⟨w.heap.size, 3, none⟩ = some (.int .i64 d) ∧ Below w1.heap.size w1 W) → ((W.alloc o).cell? ⟨w.heap.size, 0, none⟩ = some (.int .i64 a) ∧ (W.alloc o).cell? ⟨w.heap.size, 1, none⟩ = some (.int .i64 b) ∧ (W.alloc o).cell? ⟨w.heap.size, 2, none⟩ = some (.int .i64 c) ∧ (W.alloc o).cell? ⟨w.heap.size, 3, none⟩ = some (.int .i64 d) ∧ Below w1.heap.size w1 (W.alloc o)) := fun W o ⟨_, _, _, _, hW⟩ => KM _ (Below.step hW (below_alloc1 _ _))
  have KS : ∀ (W : World) (g : Nat) (u0 u1 u2 u3 : Value), w1.heap.size ≤ g → (W.cell? ⟨w.heap.size, 0, none⟩ = some (.int .i64 a) ∧ W.cell? ⟨w.heap.size, 1, none⟩ = some (.int .i64 b) ∧ W.cell? ⟨w.heap.size, 2, none⟩ = some (.int .i64 c) ∧ W.cell? ⟨w.heap.size, 3, none⟩ = some (.int .i64 d) ∧ Below w1.heap.size w1 W) → (((((W.setCell ⟨g, 0, none⟩ u0).setCell ⟨g, 1, none⟩ u1).setCell ⟨g, 2, none⟩ u2).setCell ⟨g, 3, none⟩ u3).cell? ⟨w.heap.size, 0, none⟩ = some (.int .i64 a) ∧ ((((W.setCell ⟨g, 0, none⟩ u0).setCell ⟨g, 1, none⟩ u1).setCell ⟨g, 2, none⟩ u2).setCell ⟨g, 3, none⟩ u3).cell? ⟨w.heap.size, 1, none⟩ = some (.int .i64 b) ∧ ((((W.setCell ⟨g, 0, none⟩ u0).setCell ⟨g, 1, none⟩ u1).setCell ⟨g, 2, none⟩ u2).setCell ⟨g, 3, none⟩ u3).cell? ⟨w.heap.size, 2, none⟩ = some (.int .i64 c) ∧ ((((W.setCell ⟨g, 0, none⟩ u0).setCell ⟨g, 1, none⟩ u1).setCell ⟨g, 2, none⟩ u2).setCell ⟨g, 3, none⟩ u3).cell? ⟨w.heap.size, 3, none⟩ = some (.int .i64 d) ∧ Below w1.heap.size w1 ((((W.setCell ⟨g, 0, none⟩ u0).setCell ⟨g, 1, none⟩ u1).setCell ⟨g, 2, none⟩ u2).setCell ⟨g, 3, none⟩ u3)) := fun W g u0 u1 u2 u3 hg ⟨_, _, _, _, hW⟩ => KM _ ((((hW.setCell hg _).setCell hg _).setCell hg _).setCell hg _)
  have KC : ∀ (W W' : World), Below W.heap.size W W' → (W.cell? ⟨w.heap.size, 0, none⟩ = some (.int .i64 a) ∧ W.cell? ⟨w.heap.size, 1, none⟩ = some (.int .i64 b) ∧ W.cell? ⟨w.heap.size, 2, none⟩ = some (.int .i64 c) ∧ W.cell? ⟨w.heap.size, 3, none⟩ = some (.int .i64 d) ∧ Below w1.heap.size w1 W) → (W'.cell? ⟨w.heap.size, 0, none⟩ = some (.int .i64 a) ∧ W'.cell? ⟨w.heap.size, 1, none⟩ = some (.int .i64 b) ∧ W'.cell? ⟨w.heap.size, 2, none⟩ = some (.int .i64 c) ∧ W'.cell? ⟨w.heap.size, 3, none⟩ = some (.int .i64 d) ∧ Below w1.heap.size w1 W') := fun W W' hb ⟨_, _, _, _, hW⟩ => KM _ (Below.step hW hb)
  have KD : ∀ (W : World), (W.cell? ⟨w.heap.size, 0, none⟩ = some (.int .i64 a) ∧ W.cell? ⟨w.heap.size, 1, none⟩ = some (.int .i64 b) ∧ W.cell? ⟨w.heap.size, 2, none⟩ = some (.int .i64 c) ∧ W.cell? ⟨w.heap.size, 3, none⟩ = some (.int .i64 d) ∧ Below w1.heap.size w1 W) → (W.drew.cell? ⟨w.heap.size, 0, none⟩ = some (.int .i64 a) ∧ W.drew.cell? ⟨w.heap.size, 1, none⟩ = some (.int .i64 b) ∧ W.drew.cell? ⟨w.heap.size, 2, none⟩ = some (.int .i64 c) ∧ W.drew.cell? ⟨w.heap.size, 3, none⟩ = some (.int .i64 d) ∧ Below w1.heap.size w1 W.drew) := fun W ⟨_, _, _, _, hW⟩ => KM _ (below_drew hW)
  have KB : ∀ (W : World), (W.cell? ⟨w.heap.size, 0, none⟩ = some (.int .i64 a) ∧ W.cell? ⟨w.heap.size, 1, none⟩ = some (.int .i64 b) ∧ W.cell? ⟨w.heap.size, 2, none⟩ = some (.int .i64 c) ∧ W.cell? ⟨w.heap.size, 3, none⟩ = some (.int .i64 d) ∧ Below w1.heap.size w1 W) → Below w1.heap.size w1 W := fun W ⟨_, _, _, _, hW⟩ => hW
  have KM0 := KM w1.drew ⟨rfl, rfl, rfl, Nat.le_refl _, fun _ _ => rfl⟩
  have KM00 := KM _ (Below.refl _ _)
  replace KA := Lib.hid KA
  replace KS := Lib.hid KS
  replace KC := Lib.hid KC
  replace KB := Lib.hid KB
  replace KD := Lib.hid KD
  clear KM k0 k1 k2 k3
  go_cut [6] (fun s6 wx => ∃ gs, s6 = .pointer (some ⟨gs, 0, none⟩) ∧ Box wx gs 24 #[.int .i64 a, .int .i64 B, .int .i64 E, .int .i64 V] ∧ Below w1.heap.size w1 wx)
  case first =>
    go_region_held3 (fun w' => w'.cell? ⟨w.heap.size, 0, none⟩ = some (.int .i64 a) ∧ w'.cell? ⟨w.heap.size, 1, none⟩ = some (.int .i64 b) ∧ w'.cell? ⟨w.heap.size, 2, none⟩ = some (.int .i64 c) ∧ w'.cell? ⟨w.heap.size, 3, none⟩ = some (.int .i64 d) ∧ Below w1.heap.size w1 w') ((first | (with_reducible assumption) | ((with_reducible refine KA.out _ _ ?_); (with_reducible assumption)) | ((with_reducible refine KC.out _ _ ?_ ?_); (with_reducible assumption); (with_reducible assumption)) | ((with_reducible refine KS.out _ _ _ _ _ _ ?_ ?_); (first | exact Nat.le_refl _ | exact hsA | fail); (first | (with_reducible assumption) | ((with_reducible refine KA.out _ _ ?_); (with_reducible assumption)))) | ((with_reducible refine KD.out _ ?_); (first | (with_reducible assumption) | ((with_reducible refine KA.out _ _ ?_); (with_reducible assumption)) | ((with_reducible refine KC.out _ _ ?_ ?_); (with_reducible assumption); (with_reducible assumption)) | ((with_reducible refine KS.out _ _ _ _ _ _ ?_ ?_); (first | exact Nat.le_refl _ | exact hsA | fail); (first | (with_reducible assumption) | ((with_reducible refine KA.out _ _ ?_); (with_reducible assumption))))))))
      (first
        | (go_at_call 27; (with_reducible refine (key.out _).mono ?_); rintro e wC ⟨rfl, hbC⟩; have hSC : wC.cell? ⟨w.heap.size, 0, none⟩ = some (.int .i64 a) ∧ wC.cell? ⟨w.heap.size, 1, none⟩ = some (.int .i64 b) ∧ wC.cell? ⟨w.heap.size, 2, none⟩ = some (.int .i64 c) ∧ wC.cell? ⟨w.heap.size, 3, none⟩ = some (.int .i64 d) ∧ Below w1.heap.size w1 wC := KC.out _ _ hbC (by assumption); (first | (have hgC := (Box.new w1 24 #[.int .i64 0, .int .i64 0, .int .i64 0, .int .i64 0]).kept (w' := wC) ⟨hbC.os, hbC.tape, hbC.output, hbC.size, hbC.block⟩; obtain ⟨u0, u1, u2, u3⟩ := hgC.four; have x0 := hgC.free 0; have x1 := hgC.free 1; have x2 := hgC.free 2; have x3 := hgC.free 3; have lC := hgC.lt) | skip); have hsA : w1.heap.size ≤ w1.heap.size := Nat.le_refl _))
    all_goals (go_wp2_with fail; go_meet)
    all_goals refine ⟨_, rfl, ?_, KB.out _ ?_⟩
    all_goals (first
      | (with_reducible assumption)
      | (with_reducible exact Box.new _ _ _)
      | exact (((hgC.set 0 _).set 1 _).set 2 _).set 3 _)
  case rest =>
  obtain ⟨gs, rfl, hs, hbx⟩ := hcut
  clear KA KS KC KB KD KM0 KM00
  replace h := Below.step h hbx
  replace hxr := hxr.kept hbx
  clear hbx hx0
  obtain ⟨k0, k1, k2, k3⟩ := hs.four
  go_wp2_with fail
  refine (cuGood_no a B E V _ g2).mono ?_
  rintro e w5 ⟨rfl, hb⟩
  replace h := Below.step h hb
  replace hs := hs.kept hb
  replace hxr := hxr.kept hb
  clear hb k0 k1 k2 k3
  obtain ⟨k0, k1, k2, k3⟩ := hs.four
  obtain ⟨r0, r1, r2, r3⟩ := hxr.four
  have f0 := hxr.free 0
  have f1 := hxr.free 1
  have f2 := hxr.free 2
  have f3 := hxr.free 3
  have lr := hxr.lt
  obtain ⟨s0, s1, s2, s3⟩ := ((((hxr.set 0 (.int .i64 0)).set 1 (.int .i64 0)).set 2 (.int .i64 0)).set 3 (.int .i64 0)).four
  go_wp2_with fail
  refine bodyPost_ret (v := .tuple #[.agg #[.int .i64 0, .int .i64 0, .int .i64 0, .int .i64 0], .bool false]) (by simp [results, Tryd.results6, go_sem, s0, s1, s2, s3]) (by rfl) ⟨by rfl, ?_⟩
  exact below_sets4 h (Nat.le_succ _) _ _ _ _

set_option maxHeartbeats 1000000 in
theorem shiftS_bad (a b c d y : Int) (w : World) (g : ¬ CuG a b c d) : Calls Tryd.prog 6 #[.agg #[.int .i64 a, .int .i64 b, .int .i64 c, .int .i64 d], .int .i64 y] w (GivesCB w 0 0 0 0 false) := by
  have h := below_alloc1 w (.cells #[.int .i64 a, .int .i64 b, .int .i64 c, .int .i64 d] 24)
  have hx0 := Box.new w 24 #[.int .i64 a, .int .i64 b, .int .i64 c, .int .i64 d]
  have hA := below_alloc1 (w.alloc (.cells #[.int .i64 a, .int .i64 b, .int .i64 c, .int .i64 d] 24)) (.cells #[.int .i64 0, .int .i64 0, .int .i64 0, .int .i64 0] 24)
  have hxr := Box.new (w.alloc (.cells #[.int .i64 a, .int .i64 b, .int .i64 c, .int .i64 d] 24)) 24 #[.int .i64 0, .int .i64 0, .int .i64 0, .int .i64 0]
  rw [show (w.alloc (.cells #[.int .i64 a, .int .i64 b, .int .i64 c, .int .i64 d] 24)).heap.size = w.heap.size + 1 from by simp] at hxr
  replace h := Below.step h hA
  replace hx0 := hx0.kept hA
  clear hA
  obtain ⟨k0, k1, k2, k3⟩ := hx0.four
  go_enter Tryd.func6, Tryd.ntmps6
  go_wp2_with fail
  refine (cuGood_no a b c d _ g).mono ?_
  rintro e w1 ⟨rfl, hb⟩
  replace h := Below.step h hb
  replace hx0 := hx0.kept hb
  replace hxr := hxr.kept hb
  clear hb k0 k1 k2 k3
  obtain ⟨k0, k1, k2, k3⟩ := hx0.four
  obtain ⟨r0, r1, r2, r3⟩ := hxr.four
  have f0 := hxr.free 0
  have f1 := hxr.free 1
  have f2 := hxr.free 2
  have f3 := hxr.free 3
  have lr := hxr.lt
  obtain ⟨s0, s1, s2, s3⟩ := ((((hxr.set 0 (.int .i64 0)).set 1 (.int .i64 0)).set 2 (.int .i64 0)).set 3 (.int .i64 0)).four
  go_wp2_with fail
  refine bodyPost_ret (v := .tuple #[.agg #[.int .i64 0, .int .i64 0, .int .i64 0, .int .i64 0], .bool false]) (by simp [results, Tryd.results6, go_sem, s0, s1, s2, s3]) (by rfl) ⟨by rfl, ?_⟩
  exact below_sets4 h (Nat.le_succ _) _ _ _ _

set_option maxHeartbeats 1000000 in
theorem shiftS_out (a b c d y : Int) (w : World) (g : CuG a b c d) (hy : y < -10 ∨ 10 < y) : Calls Tryd.prog 6 #[.agg #[.int .i64 a, .int .i64 b, .int .i64 c, .int .i64 d], .int .i64 y] w (GivesCB w 0 0 0 0 false) := by
  have hy' := Lib.hid hy
  clear hy
  have h := below_alloc1 w (.cells #[.int .i64 a, .int .i64 b, .int .i64 c, .int .i64 d] 24)
  have hx0 := Box.new w 24 #[.int .i64 a, .int .i64 b, .int .i64 c, .int .i64 d]
  have hA := below_alloc1 (w.alloc (.cells #[.int .i64 a, .int .i64 b, .int .i64 c, .int .i64 d] 24)) (.cells #[.int .i64 0, .int .i64 0, .int .i64 0, .int .i64 0] 24)
  have hxr := Box.new (w.alloc (.cells #[.int .i64 a, .int .i64 b, .int .i64 c, .int .i64 d] 24)) 24 #[.int .i64 0, .int .i64 0, .int .i64 0, .int .i64 0]
  rw [show (w.alloc (.cells #[.int .i64 a, .int .i64 b, .int .i64 c, .int .i64 d] 24)).heap.size = w.heap.size + 1 from by simp] at hxr
  replace h := Below.step h hA
  replace hx0 := hx0.kept hA
  clear hA
  obtain ⟨k0, k1, k2, k3⟩ := hx0.four
  go_enter Tryd.func6, Tryd.ntmps6
  go_wp2_with fail
  refine (cuGood_yes a b c d _ g).mono ?_
  rintro e w1 ⟨rfl, hb⟩
  replace h := Below.step h hb
  replace hx0 := hx0.kept hb
  replace hxr := hxr.kept hb
  clear hb k0 k1 k2 k3
  obtain ⟨k0, k1, k2, k3⟩ := hx0.four
  go_wp2_with fail
  refine (l1In_no y (-10) 10 _ hy'.out).mono ?_
  rintro e w2 ⟨rfl, rfl⟩
  obtain ⟨r0, r1, r2, r3⟩ := hxr.four
  have f0 := hxr.free 0
  have f1 := hxr.free 1
  have f2 := hxr.free 2
  have f3 := hxr.free 3
  have lr := hxr.lt
  obtain ⟨s0, s1, s2, s3⟩ := ((((hxr.set 0 (.int .i64 0)).set 1 (.int .i64 0)).set 2 (.int .i64 0)).set 3 (.int .i64 0)).four
  go_wp2_with fail
  refine bodyPost_ret (v := .tuple #[.agg #[.int .i64 0, .int .i64 0, .int .i64 0, .int .i64 0], .bool false]) (by simp [results, Tryd.results6, go_sem, s0, s1, s2, s3]) (by rfl) ⟨by rfl, ?_⟩
  exact below_sets4 h (Nat.le_succ _) _ _ _ _
end Go.Proofs.YtanmkamagdajpaaDoor
