/- InvariantOf of the model and of the program (written by wip/gen/ecinv.py). -/
import Derived.Test.YtmknmjkcnlennaaEcS
import Derived.Test.YtmknmjkcnlennaaEcI
import Derived.Test.YtmknmjkcnlennaaEcLow
import Derived.Deep.RegionHeld3
import Derived.Deep.DeepCutAuto
namespace Go.Proofs.Ytmknmjkcnlennaa
open Go.RowKit Go.Joins

set_option maxHeartbeats 1000000 in
theorem ecInvariant_any (a b P Q : Int) (w : World) (g : EcG a b) (hP : lowP (6912 * a * a * a) (ecD a b) = P) (hQ : lowQ (6912 * a * a * a) (ecD a b) = Q) : Calls Try.prog 41 #[.agg #[.int .i64 a, .int .i64 b]] w (GivesII w P Q) := by
  obtain ⟨⟨a1, a2⟩, ⟨b1, b2⟩, g0⟩ := g
  have hl := ecD_bd ⟨a1, a2⟩ ⟨b1, b2⟩
  obtain ⟨⟨p1, p2⟩, ⟨p3, p4⟩, ⟨p5, p6⟩⟩ := ecInv_bd ⟨a1, a2⟩
  obtain ⟨D, hD⟩ : ∃ D, ecD a b = D := ⟨_, rfl⟩
  have key := fun W => ecDisc_any a b W ⟨a1, a2⟩ ⟨b1, b2⟩ D hD
  have hl2 : -6700000000 ≤ D ∧ D ≤ 6700000000 := by rw [← hD]; exact hl.2.2.2
  rw [hD] at g0 hP hQ
  have kp := fun W => lowS_any (6912 * a * a * a) D W (by omega) (by omega) g0
  rw [hP, hQ] at kp
  replace key := Lib.hid key
  replace kp := Lib.hid kp
  have v1 : IntKind.i64.wrap (6912 * a) = 6912 * a := IntWalk.i64_in _ (by omega)
  have v2 : IntKind.i64.wrap (6912 * a * a) = 6912 * a * a := IntWalk.i64_in _ (by omega)
  have v3 : IntKind.i64.wrap (6912 * a * a * a) = 6912 * a * a * a := IntWalk.i64_in _ (by omega)
  clear hD hP hQ hl g0
  have h := Below.refl w.heap.size w
  have hA := below_alloc1 w (.cells #[.int .i64 a, .int .i64 b] 25)
  have hx0 := Box.new w 25 #[.int .i64 a, .int .i64 b]
  replace h := Below.step h hA
  clear hA
  obtain ⟨k00, k01⟩ := hx0.two
  have l0 := hx0.lt
  go_enter Try.func41, Try.ntmps41
  go_upto_region 1 with fail
  generalize (w.alloc (.cells #[.int .i64 a, .int .i64 b] 25)) = w1 at *
  have KM : ∀ (W : World), Below w1.heap.size w1 W → (W.cell? ⟨w.heap.size, 0, none⟩ = some (.int .i64 a) ∧ W.cell? ⟨w.heap.size, 1, none⟩ = some (.int .i64 b) ∧ Below w1.heap.size w1 W) := fun W hW => ⟨(hx0.kept hW).two.1, (hx0.kept hW).two.2, hW⟩
  have KC : ∀ (W W' : World), Below W.heap.size W W' → (W.cell? ⟨w.heap.size, 0, none⟩ = some (.int .i64 a) ∧ W.cell? ⟨w.heap.size, 1, none⟩ = some (.int .i64 b) ∧ Below w1.heap.size w1 W) → (W'.cell? ⟨w.heap.size, 0, none⟩ = some (.int .i64 a) ∧ W'.cell? ⟨w.heap.size, 1, none⟩ = some (.int .i64 b) ∧ Below w1.heap.size w1 W') := fun W W' hb ⟨_, _, hW⟩ => KM _ (Below.step hW hb)
  have KA : ∀ (W : World) (o : Obj), (W.cell? ⟨w.heap.size, 0, none⟩ = some (.int .i64 a) ∧ W.cell? ⟨w.heap.size, 1, none⟩ = some (.int .i64 b) ∧ Below w1.heap.size w1 W) → ((W.alloc o).cell? ⟨w.heap.size, 0, none⟩ = some (.int .i64 a) ∧ (W.alloc o).cell? ⟨w.heap.size, 1, none⟩ = some (.int .i64 b) ∧ Below w1.heap.size w1 (W.alloc o)) := fun W o ⟨_, _, hW⟩ => KM _ (Below.step hW (below_alloc1 _ _))
  have KD : ∀ (W : World), (W.cell? ⟨w.heap.size, 0, none⟩ = some (.int .i64 a) ∧ W.cell? ⟨w.heap.size, 1, none⟩ = some (.int .i64 b) ∧ Below w1.heap.size w1 W) → (W.drew.cell? ⟨w.heap.size, 0, none⟩ = some (.int .i64 a) ∧ W.drew.cell? ⟨w.heap.size, 1, none⟩ = some (.int .i64 b) ∧ Below w1.heap.size w1 W.drew) := fun W ⟨_, _, hW⟩ => KM _ (Below.drewN' hW 1)
  have KB : ∀ (W : World), (W.cell? ⟨w.heap.size, 0, none⟩ = some (.int .i64 a) ∧ W.cell? ⟨w.heap.size, 1, none⟩ = some (.int .i64 b) ∧ Below w1.heap.size w1 W) → Below w1.heap.size w1 W := fun W ⟨_, _, hW⟩ => hW
  have KM0 := KM w1.drew ⟨rfl, rfl, rfl, Nat.le_refl _, fun _ _ => rfl⟩
  have KM00 := KM _ (Below.refl _ _)
  replace KC := Lib.hid KC
  replace KA := Lib.hid KA
  replace KD := Lib.hid KD
  replace KB := Lib.hid KB
  clear KM k00 k01 l0
  go_cut [2, 3] (fun s2 s3 wx => s2 = .int .i64 P ∧ s3 = .int .i64 Q ∧ Below w1.heap.size w1 wx)
  case first =>
    go_region_held3 (fun w' => w'.cell? ⟨w.heap.size, 0, none⟩ = some (.int .i64 a) ∧ w'.cell? ⟨w.heap.size, 1, none⟩ = some (.int .i64 b) ∧ Below w1.heap.size w1 w') ((first | (with_reducible assumption) | ((with_reducible refine KD.out _ ?_); (with_reducible assumption)) | ((with_reducible refine KA.out _ _ ?_); (first | (with_reducible assumption) | ((with_reducible refine KD.out _ ?_); (with_reducible assumption)))) | ((with_reducible refine KC.out _ _ ?_ ?_); (with_reducible assumption); (with_reducible assumption))))
      (first
        | (go_at_call 40; (with_reducible refine (key.out _).mono ?_); rintro e wC0 ⟨rfl, hbC⟩; have hS0 : wC0.cell? ⟨w.heap.size, 0, none⟩ = some (.int .i64 a) ∧ wC0.cell? ⟨w.heap.size, 1, none⟩ = some (.int .i64 b) ∧ Below w1.heap.size w1 wC0 := KC.out _ _ hbC (by assumption))
        | (go_at_call 51; (with_reducible refine (kp.out _).mono ?_); rintro e wC1 ⟨rfl, hbC⟩; have hS1 : wC1.cell? ⟨w.heap.size, 0, none⟩ = some (.int .i64 a) ∧ wC1.cell? ⟨w.heap.size, 1, none⟩ = some (.int .i64 b) ∧ Below w1.heap.size w1 wC1 := KC.out _ _ hbC (by assumption)))
    all_goals (go_wp2_with fail; go_meet)
    all_goals refine ⟨rfl, rfl, KB.out _ ?_⟩
    all_goals (first | (with_reducible assumption) | ((with_reducible refine KD.out _ ?_); (with_reducible assumption)))
  case rest =>
  obtain ⟨rfl, rfl, hb⟩ := hcut
  clear KM0 KM00 KC KA KD KB
  replace h := Below.step h hb
  replace hx0 := hx0.kept hb
  clear hb
  obtain ⟨k00, k01⟩ := hx0.two
  have l0 := hx0.lt
  go_wp2_with fail
  go_ret2
  exact ⟨rfl, h⟩


set_option maxHeartbeats 1000000 in
theorem invS_yes (a b P Q : Int) (w : World) (g : EcG a b) (hP : lowP (6912 * a * a * a) (ecD a b) = P) (hQ : lowQ (6912 * a * a * a) (ecD a b) = Q) : Calls Try.prog 18 #[.agg #[.int .i64 a, .int .i64 b]] w (GivesIIB w P Q true) := by
  have key := fun W => ecInvariant_any a b P Q W g hP hQ
  replace key := Lib.hid key
  clear hP hQ
  have h := Below.refl w.heap.size w
  have hA := below_alloc1 w (.cells #[.int .i64 a, .int .i64 b] 25)
  have hx0 := Box.new w 25 #[.int .i64 a, .int .i64 b]
  replace h := Below.step h hA
  clear hA
  obtain ⟨k00, k01⟩ := hx0.two
  have l0 := hx0.lt
  go_enter Try.func18, Try.ntmps18
  go_wp2_with fail
  refine (ecGood_yes a b _ g).mono ?_
  rintro e w1 ⟨rfl, hb⟩
  replace h := Below.step h hb
  replace hx0 := hx0.kept hb
  clear hb k00 k01 l0
  obtain ⟨k00, k01⟩ := hx0.two
  have l0 := hx0.lt
  go_wp2_with fail
  refine (key.out _).mono ?_
  rintro e w2 ⟨rfl, hb⟩
  replace h := Below.step h hb
  replace hx0 := hx0.kept hb
  clear hb k00 k01 l0
  obtain ⟨k00, k01⟩ := hx0.two
  have l0 := hx0.lt
  go_wp2_with fail
  go_ret3
  exact ⟨rfl, h⟩


set_option maxHeartbeats 1000000 in
theorem invS_bad (a b : Int) (w : World) (g : ¬ EcG a b) : Calls Try.prog 18 #[.agg #[.int .i64 a, .int .i64 b]] w (GivesIIB w 0 0 false) := by
  have h := Below.refl w.heap.size w
  have hA := below_alloc1 w (.cells #[.int .i64 a, .int .i64 b] 25)
  have hx0 := Box.new w 25 #[.int .i64 a, .int .i64 b]
  replace h := Below.step h hA
  clear hA
  obtain ⟨k00, k01⟩ := hx0.two
  have l0 := hx0.lt
  go_enter Try.func18, Try.ntmps18
  go_wp2_with fail
  refine (ecGood_no a b _ g).mono ?_
  rintro e w1 ⟨rfl, hb⟩
  replace h := Below.step h hb
  replace hx0 := hx0.kept hb
  clear hb k00 k01 l0
  obtain ⟨k00, k01⟩ := hx0.two
  have l0 := hx0.lt
  go_wp2_with fail
  go_ret3
  exact ⟨rfl, h⟩


set_option maxHeartbeats 1000000 in
theorem invI_bad (a b : Int) (w : World) (g : ¬ EcG a b) : Calls Try.prog 19 #[.agg #[.int .i64 a, .int .i64 b]] w (GivesIIB w 0 0 false) := by
  have h := Below.refl w.heap.size w
  have hA := below_alloc1 w (.cells #[.int .i64 a, .int .i64 b] 25)
  have hx0 := Box.new w 25 #[.int .i64 a, .int .i64 b]
  replace h := Below.step h hA
  clear hA
  obtain ⟨k00, k01⟩ := hx0.two
  have l0 := hx0.lt
  go_enter Try.func19, Try.ntmps19
  go_wp2_with fail
  refine (isCurveI_no a b _ g).mono ?_
  rintro e w1 ⟨rfl, hb⟩
  replace h := Below.step h hb
  replace hx0 := hx0.kept hb
  clear hb k00 k01 l0
  obtain ⟨k00, k01⟩ := hx0.two
  have l0 := hx0.lt
  go_wp2_with fail
  go_ret3
  exact ⟨rfl, h⟩


theorem ta_KL (v : Value) (w : World) : (Instr.typeAssert (.iface 58 v) 49 56 true).run Try.prog w = .ok (.tuple #[.agg #[.int .i64 0], .bool false]) w := by kernel_rfl
theorem ta_KK (v : Value) (w : World) : (Instr.typeAssert (.iface 58 v) 49 58 true).run Try.prog w = .ok (.tuple #[v, .bool true]) w := by kernel_rfl
theorem ta_LL (v : Value) (w : World) : (Instr.typeAssert (.iface 56 v) 49 56 true).run Try.prog w = .ok (.tuple #[v, .bool true]) w := by kernel_rfl
theorem ta_FL (v : Value) (w : World) : (Instr.typeAssert (.iface 71 v) 49 56 true).run Try.prog w = .ok (.tuple #[.agg #[.int .i64 0], .bool false]) w := by kernel_rfl
theorem ta_FK (v : Value) (w : World) : (Instr.typeAssert (.iface 71 v) 49 58 true).run Try.prog w = .ok (.tuple #[.agg #[.int .i64 0], .bool false]) w := by kernel_rfl

set_option maxHeartbeats 1000000 in
theorem invI_0 (b : Int) (w : World) (g : EcG 0 b)  : Calls Try.prog 19 #[.agg #[.int .i64 0, .int .i64 b]] w (GivesIIB w 0 1 true) := by
  have q1 := ta_KL
  have q2 := ta_KK
  have h := Below.refl w.heap.size w
  have hA := below_alloc1 w (.cells #[.int .i64 0, .int .i64 b] 25)
  have hx0 := Box.new w 25 #[.int .i64 0, .int .i64 b]
  replace h := Below.step h hA
  clear hA
  obtain ⟨k00, k01⟩ := hx0.two
  have l0 := hx0.lt
  go_enter Try.func19, Try.ntmps19
  go_wp2_with fail
  refine (isCurveI_yes 0 b _ g).mono ?_
  rintro e w1 ⟨rfl, hb⟩
  replace h := Below.step h hb
  replace hx0 := hx0.kept hb
  clear hb k00 k01 l0
  obtain ⟨k00, k01⟩ := hx0.two
  have l0 := hx0.lt
  go_wp2_with fail
  refine (formOf_0 0 b _ rfl).mono ?_
  rintro e w2 ⟨rfl, hb⟩
  replace h := Below.step h hb
  replace hx0 := hx0.kept hb
  clear hb k00 k01 l0
  obtain ⟨k00, k01⟩ := hx0.two
  have l0 := hx0.lt
  go_wp2_with fail
  go_ret3
  exact ⟨rfl, Below.step h (below_alloc1 _ _)⟩


set_option maxHeartbeats 1000000 in
theorem invI_l (a : Int) (w : World) (g : EcG a 0) (h0 : a ≠ 0) : Calls Try.prog 19 #[.agg #[.int .i64 a, .int .i64 0]] w (GivesIIB w 1728 1 true) := by
  have q1 := ta_LL
  have h := Below.refl w.heap.size w
  have hA := below_alloc1 w (.cells #[.int .i64 a, .int .i64 0] 25)
  have hx0 := Box.new w 25 #[.int .i64 a, .int .i64 0]
  replace h := Below.step h hA
  clear hA
  obtain ⟨k00, k01⟩ := hx0.two
  have l0 := hx0.lt
  go_enter Try.func19, Try.ntmps19
  go_wp2_with fail
  refine (isCurveI_yes a 0 _ g).mono ?_
  rintro e w1 ⟨rfl, hb⟩
  replace h := Below.step h hb
  replace hx0 := hx0.kept hb
  clear hb k00 k01 l0
  obtain ⟨k00, k01⟩ := hx0.two
  have l0 := hx0.lt
  go_wp2_with fail
  refine (formOf_l a 0 _ h0 rfl).mono ?_
  rintro e w2 ⟨rfl, hb⟩
  replace h := Below.step h hb
  replace hx0 := hx0.kept hb
  clear hb k00 k01 l0
  obtain ⟨k00, k01⟩ := hx0.two
  have l0 := hx0.lt
  go_wp2_with fail
  go_ret3
  exact ⟨rfl, Below.step h (below_alloc1 _ _)⟩


set_option maxHeartbeats 1000000 in
theorem invI_f (a b P Q : Int) (w : World) (g : EcG a b) (h0 : a ≠ 0) (h1 : b ≠ 0) (hP : lowP (6912 * a * a * a) (ecD a b) = P) (hQ : lowQ (6912 * a * a * a) (ecD a b) = Q) : Calls Try.prog 19 #[.agg #[.int .i64 a, .int .i64 b]] w (GivesIIB w P Q true) := by
  have q1 := ta_FL
  have q2 := ta_FK
  have g' := g
  obtain ⟨⟨a1, a2⟩, ⟨b1, b2⟩, g0⟩ := g'
  have hl := ecD_bd ⟨a1, a2⟩ ⟨b1, b2⟩
  obtain ⟨⟨p1, p2⟩, ⟨p3, p4⟩, ⟨p5, p6⟩⟩ := ecInv_bd ⟨a1, a2⟩
  have hF := form_F a b ⟨a1, a2⟩ ⟨b1, b2⟩
  obtain ⟨D, hD⟩ : ∃ D, ecD a b = D := ⟨_, rfl⟩
  have c1 := hF.cc
  have n1 := hF.nc
  have m1 := hF.mc
  have e1 := hF.ec
  have hl2 : -6700000000 ≤ D ∧ D ≤ 6700000000 := by rw [← hD]; exact hl.2.2.2
  rw [hD] at g0 hP hQ c1
  have kp := fun W => lowI_any (6912 * a * a * a) D W (by omega) (by omega) g0
  rw [hP, hQ] at kp
  have c1' := fun (W : World) => c1 W
  replace c1 := Lib.hid c1'
  clear c1'
  replace kp := Lib.hid kp
  have v1 : IntKind.i64.wrap (6912 * a) = 6912 * a := IntWalk.i64_in _ (by omega)
  have v2 : IntKind.i64.wrap (6912 * a * a) = 6912 * a * a := IntWalk.i64_in _ (by omega)
  have v3 : IntKind.i64.wrap (6912 * a * a * a) = 6912 * a * a * a := IntWalk.i64_in _ (by omega)
  replace h0 := Lib.hid h0
  replace h1 := Lib.hid h1
  clear hD hP hQ hl g0 hF
  have h := Below.refl w.heap.size w
  have hA := below_alloc1 w (.cells #[.int .i64 a, .int .i64 b] 25)
  have hx0 := Box.new w 25 #[.int .i64 a, .int .i64 b]
  replace h := Below.step h hA
  clear hA
  obtain ⟨k00, k01⟩ := hx0.two
  have l0 := hx0.lt
  go_enter Try.func19, Try.ntmps19
  go_wp2_with fail
  refine (isCurveI_yes a b _ g).mono ?_
  rintro e w1 ⟨rfl, hb⟩
  replace h := Below.step h hb
  replace hx0 := hx0.kept hb
  clear hb k00 k01 l0
  obtain ⟨k00, k01⟩ := hx0.two
  have l0 := hx0.lt
  go_wp2_with fail
  refine (formOf_f a b _ h0.out h1.out).mono ?_
  rintro e w2 ⟨rfl, hb⟩
  replace h := Below.step h hb
  replace hx0 := hx0.kept hb
  clear hb k00 k01 l0
  obtain ⟨k00, k01⟩ := hx0.two
  have l0 := hx0.lt
  go_upto_region 5 with fail
  have KM : ∀ (W : World), Below w2.heap.size w2 W → (W.cell? ⟨w.heap.size, 0, none⟩ = some (.int .i64 a) ∧ W.cell? ⟨w.heap.size, 1, none⟩ = some (.int .i64 b) ∧ Below w2.heap.size w2 W) := fun W hW => ⟨(hx0.kept hW).two.1, (hx0.kept hW).two.2, hW⟩
  have KC : ∀ (W W' : World), Below W.heap.size W W' → (W.cell? ⟨w.heap.size, 0, none⟩ = some (.int .i64 a) ∧ W.cell? ⟨w.heap.size, 1, none⟩ = some (.int .i64 b) ∧ Below w2.heap.size w2 W) → (W'.cell? ⟨w.heap.size, 0, none⟩ = some (.int .i64 a) ∧ W'.cell? ⟨w.heap.size, 1, none⟩ = some (.int .i64 b) ∧ Below w2.heap.size w2 W') := fun W W' hb ⟨_, _, hW⟩ => KM _ (Below.step hW hb)
  have KA : ∀ (W : World) (o : Obj), (W.cell? ⟨w.heap.size, 0, none⟩ = some (.int .i64 a) ∧ W.cell? ⟨w.heap.size, 1, none⟩ = some (.int .i64 b) ∧ Below w2.heap.size w2 W) → ((W.alloc o).cell? ⟨w.heap.size, 0, none⟩ = some (.int .i64 a) ∧ (W.alloc o).cell? ⟨w.heap.size, 1, none⟩ = some (.int .i64 b) ∧ Below w2.heap.size w2 (W.alloc o)) := fun W o ⟨_, _, hW⟩ => KM _ (Below.step hW (below_alloc1 _ _))
  have KD : ∀ (W : World), (W.cell? ⟨w.heap.size, 0, none⟩ = some (.int .i64 a) ∧ W.cell? ⟨w.heap.size, 1, none⟩ = some (.int .i64 b) ∧ Below w2.heap.size w2 W) → (W.drew.cell? ⟨w.heap.size, 0, none⟩ = some (.int .i64 a) ∧ W.drew.cell? ⟨w.heap.size, 1, none⟩ = some (.int .i64 b) ∧ Below w2.heap.size w2 W.drew) := fun W ⟨_, _, hW⟩ => KM _ (Below.drewN' hW 1)
  have KB : ∀ (W : World), (W.cell? ⟨w.heap.size, 0, none⟩ = some (.int .i64 a) ∧ W.cell? ⟨w.heap.size, 1, none⟩ = some (.int .i64 b) ∧ Below w2.heap.size w2 W) → Below w2.heap.size w2 W := fun W ⟨_, _, hW⟩ => hW
  have KM0 := KM w2.drew ⟨rfl, rfl, rfl, Nat.le_refl _, fun _ _ => rfl⟩
  have KM00 := KM _ (Below.refl _ _)
  replace KC := Lib.hid KC
  replace KA := Lib.hid KA
  replace KD := Lib.hid KD
  replace KB := Lib.hid KB
  clear KM k00 k01 l0
  go_cut [8, 9] (fun s8 s9 wx => s8 = .int .i64 P ∧ s9 = .int .i64 Q ∧ Below w2.heap.size w2 wx)
  case first =>
    go_region_held3 (fun w' => w'.cell? ⟨w.heap.size, 0, none⟩ = some (.int .i64 a) ∧ w'.cell? ⟨w.heap.size, 1, none⟩ = some (.int .i64 b) ∧ Below w2.heap.size w2 w') ((first | (with_reducible assumption) | ((with_reducible refine KD.out _ ?_); (with_reducible assumption)) | ((with_reducible refine KA.out _ _ ?_); (first | (with_reducible assumption) | ((with_reducible refine KD.out _ ?_); (with_reducible assumption)))) | ((with_reducible refine KC.out _ _ ?_ ?_); (with_reducible assumption); (with_reducible assumption))))
      (first
        | (go_at_call 81; (with_reducible refine (c1.out _).mono ?_); rintro e wC0 ⟨rfl, hbC⟩; have hS0 : wC0.cell? ⟨w.heap.size, 0, none⟩ = some (.int .i64 a) ∧ wC0.cell? ⟨w.heap.size, 1, none⟩ = some (.int .i64 b) ∧ Below w2.heap.size w2 wC0 := KC.out _ _ hbC (by assumption))
        | (go_at_call 42; (with_reducible refine (kp.out _).mono ?_); rintro e wC1 ⟨rfl, hbC⟩; have hS1 : wC1.cell? ⟨w.heap.size, 0, none⟩ = some (.int .i64 a) ∧ wC1.cell? ⟨w.heap.size, 1, none⟩ = some (.int .i64 b) ∧ Below w2.heap.size w2 wC1 := KC.out _ _ hbC (by assumption)))
    all_goals (go_wp2_with fail; go_meet)
    all_goals refine ⟨rfl, rfl, KB.out _ ?_⟩
    all_goals (first | (with_reducible assumption) | ((with_reducible refine KD.out _ ?_); (with_reducible assumption)))
  case rest =>
  obtain ⟨rfl, rfl, hb⟩ := hcut
  clear KM0 KM00 KC KA KD KB
  replace h := Below.step h hb
  replace hx0 := hx0.kept hb
  clear hb
  obtain ⟨k00, k01⟩ := hx0.two
  have l0 := hx0.lt
  go_wp2_with fail
  go_ret3
  exact ⟨rfl, h⟩

end Go.Proofs.Ytmknmjkcnlennaa
