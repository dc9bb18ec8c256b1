/- Cores of exact laws: true if the model and the program hand back the same (written by wip/gen/genlaw.py). -/
import Derived.Test.YtjamckcbgcejdaaDoorCuLaw0
import Derived.Test.YtjamckcbgcejdaaDoorCfOut
import Derived.Test.YtjamckcbgcejdaaDoorFrLaw0
import Derived.Deep.DeepCutAuto
import Derived.Deep.RegionHeld3
namespace Go.Proofs.YtjamckcbgcejdaaDoor
open Go.RowKit Go.Joins

set_option maxHeartbeats 4000000 in
set_option maxRecDepth 100000 in
theorem lawCubicAtFraction_core (a0 b0 c0 d0 : Int) (p1 q1 : Int) (w : World) (hL : Lim w)  (ri : Int) (ok : Bool)
    (hS : ∀ (W : World), Calls Tryd.prog 8 #[.agg #[.int .i64 a0, .int .i64 b0, .int .i64 c0, .int .i64 d0], .agg #[.int .i64 p1, .int .i64 q1]] W (GivesIB W ri ok))
    (hI : ∀ (W : World), Lim W → Calls Tryd.prog 11 #[.agg #[.int .i64 a0, .int .i64 b0, .int .i64 c0, .int .i64 d0], .agg #[.int .i64 p1, .int .i64 q1]] W (GivesIB W ri ok)) :
    Calls Tryd.prog 3 #[.agg #[.int .i64 a0, .int .i64 b0, .int .i64 c0, .int .i64 d0], .agg #[.int .i64 p1, .int .i64 q1]] w fun e w' => e = .returned (.bool true) ∧ Below w.heap.size w w' := by
  replace hS := Lib.hid hS
  replace hI := Lib.hid hI
  have eri : (ri != ri) = false := by simp
  have eok : (ok != ok) = false := by simp
  have h := Below.refl w.heap.size w
  have hA := below_alloc1 w (.cells #[.int .i64 a0, .int .i64 b0, .int .i64 c0, .int .i64 d0] 23)
  replace h := Below.step h hA
  have hxa0 := Box.new w 23 #[.int .i64 a0, .int .i64 b0, .int .i64 c0, .int .i64 d0]
  clear hA
  have hA := below_alloc1 (w.alloc (.cells #[.int .i64 a0, .int .i64 b0, .int .i64 c0, .int .i64 d0] 23)) (.cells #[.int .i64 p1, .int .i64 q1] 25)
  replace h := Below.step h hA
  replace hxa0 := hxa0.kept hA
  have hxa1 := Box.new (w.alloc (.cells #[.int .i64 a0, .int .i64 b0, .int .i64 c0, .int .i64 d0] 23)) 25 #[.int .i64 p1, .int .i64 q1]
  rw [show (w.alloc (.cells #[.int .i64 a0, .int .i64 b0, .int .i64 c0, .int .i64 d0] 23)).heap.size = w.heap.size + 1 from by simp] at hxa1
  clear hA
  go_enter Tryd.func3, Tryd.ntmps3
  obtain ⟨kaa0, kba0, kca0, kda0⟩ := hxa0.four
  have kla0 := hxa0.lt
  obtain ⟨kaa1, kba1⟩ := hxa1.two
  have kla1 := hxa1.lt
  go_upto_region 1 with fail
  generalize ((w.alloc (.cells #[.int .i64 a0, .int .i64 b0, .int .i64 c0, .int .i64 d0] 23)).alloc (.cells #[.int .i64 p1, .int .i64 q1] 25)) = w1 at *
  have KM : ∀ (W : World), Below w1.heap.size w1 W → (W.cell? ⟨w.heap.size, 0, none⟩ = some (.int .i64 a0) ∧ W.cell? ⟨w.heap.size, 1, none⟩ = some (.int .i64 b0) ∧ W.cell? ⟨w.heap.size, 2, none⟩ = some (.int .i64 c0) ∧ W.cell? ⟨w.heap.size, 3, none⟩ = some (.int .i64 d0) ∧ W.cell? ⟨w.heap.size + 1, 0, none⟩ = some (.int .i64 p1) ∧ W.cell? ⟨w.heap.size + 1, 1, none⟩ = some (.int .i64 q1) ∧ Below w1.heap.size w1 W) := fun W hW => ⟨(hxa0.kept hW).four.1, (hxa0.kept hW).four.2.1, (hxa0.kept hW).four.2.2.1, (hxa0.kept hW).four.2.2.2, (hxa1.kept hW).two.1, (hxa1.kept hW).two.2, hW⟩
  have KA : ∀ (W : World) (o : Obj), (W.cell? ⟨w.heap.size, 0, none⟩ = some (.int .i64 a0) ∧ W.cell? ⟨w.heap.size, 1, none⟩ = some (.int .i64 b0) ∧ W.cell? ⟨w.heap.size, 2, none⟩ = some (.int .i64 c0) ∧ W.cell? ⟨w.heap.size, 3, none⟩ = some (.int .i64 d0) ∧ W.cell? ⟨w.heap.size + 1, 0, none⟩ = some (.int .i64 p1) ∧ W.cell? ⟨w.heap.size + 1, 1, none⟩ = some (.int .i64 q1) ∧ Below w1.heap.size w1 W) → ((W.alloc o).cell? ⟨w.heap.size, 0, none⟩ = some (.int .i64 a0) ∧ (W.alloc o).cell? ⟨w.heap.size, 1, none⟩ = some (.int .i64 b0) ∧ (W.alloc o).cell? ⟨w.heap.size, 2, none⟩ = some (.int .i64 c0) ∧ (W.alloc o).cell? ⟨w.heap.size, 3, none⟩ = some (.int .i64 d0) ∧ (W.alloc o).cell? ⟨w.heap.size + 1, 0, none⟩ = some (.int .i64 p1) ∧ (W.alloc o).cell? ⟨w.heap.size + 1, 1, none⟩ = some (.int .i64 q1) ∧ Below w1.heap.size w1 (W.alloc o)) := fun W o ⟨_, _, _, _, _, _, hW⟩ => KM _ (Below.step hW (below_alloc1 _ _))
  have KD : ∀ (W : World), (W.cell? ⟨w.heap.size, 0, none⟩ = some (.int .i64 a0) ∧ W.cell? ⟨w.heap.size, 1, none⟩ = some (.int .i64 b0) ∧ W.cell? ⟨w.heap.size, 2, none⟩ = some (.int .i64 c0) ∧ W.cell? ⟨w.heap.size, 3, none⟩ = some (.int .i64 d0) ∧ W.cell? ⟨w.heap.size + 1, 0, none⟩ = some (.int .i64 p1) ∧ W.cell? ⟨w.heap.size + 1, 1, none⟩ = some (.int .i64 q1) ∧ Below w1.heap.size w1 W) → (W.drew.cell? ⟨w.heap.size, 0, none⟩ = some (.int .i64 a0) ∧ W.drew.cell? ⟨w.heap.size, 1, none⟩ = some (.int .i64 b0) ∧ W.drew.cell? ⟨w.heap.size, 2, none⟩ = some (.int .i64 c0) ∧ W.drew.cell? ⟨w.heap.size, 3, none⟩ = some (.int .i64 d0) ∧ W.drew.cell? ⟨w.heap.size + 1, 0, none⟩ = some (.int .i64 p1) ∧ W.drew.cell? ⟨w.heap.size + 1, 1, none⟩ = some (.int .i64 q1) ∧ Below w1.heap.size w1 W.drew) := fun W ⟨_, _, _, _, _, _, hW⟩ => KM _ (Below.drewN' hW 1)
  have KC : ∀ (W W' : World), Below W.heap.size W W' → (W.cell? ⟨w.heap.size, 0, none⟩ = some (.int .i64 a0) ∧ W.cell? ⟨w.heap.size, 1, none⟩ = some (.int .i64 b0) ∧ W.cell? ⟨w.heap.size, 2, none⟩ = some (.int .i64 c0) ∧ W.cell? ⟨w.heap.size, 3, none⟩ = some (.int .i64 d0) ∧ W.cell? ⟨w.heap.size + 1, 0, none⟩ = some (.int .i64 p1) ∧ W.cell? ⟨w.heap.size + 1, 1, none⟩ = some (.int .i64 q1) ∧ Below w1.heap.size w1 W) → (W'.cell? ⟨w.heap.size, 0, none⟩ = some (.int .i64 a0) ∧ W'.cell? ⟨w.heap.size, 1, none⟩ = some (.int .i64 b0) ∧ W'.cell? ⟨w.heap.size, 2, none⟩ = some (.int .i64 c0) ∧ W'.cell? ⟨w.heap.size, 3, none⟩ = some (.int .i64 d0) ∧ W'.cell? ⟨w.heap.size + 1, 0, none⟩ = some (.int .i64 p1) ∧ W'.cell? ⟨w.heap.size + 1, 1, none⟩ = some (.int .i64 q1) ∧ Below w1.heap.size w1 W') := fun W W' hb ⟨_, _, _, _, _, _, hW⟩ => KM _ (Below.step hW hb)
  have KL : ∀ (W : World), (W.cell? ⟨w.heap.size, 0, none⟩ = some (.int .i64 a0) ∧ W.cell? ⟨w.heap.size, 1, none⟩ = some (.int .i64 b0) ∧ W.cell? ⟨w.heap.size, 2, none⟩ = some (.int .i64 c0) ∧ W.cell? ⟨w.heap.size, 3, none⟩ = some (.int .i64 d0) ∧ W.cell? ⟨w.heap.size + 1, 0, none⟩ = some (.int .i64 p1) ∧ W.cell? ⟨w.heap.size + 1, 1, none⟩ = some (.int .i64 q1) ∧ Below w1.heap.size w1 W) → Lim W := fun W ⟨_, _, _, _, _, _, hW⟩ => hL.kept (Below.step h hW)
  have KB : ∀ (W : World), (W.cell? ⟨w.heap.size, 0, none⟩ = some (.int .i64 a0) ∧ W.cell? ⟨w.heap.size, 1, none⟩ = some (.int .i64 b0) ∧ W.cell? ⟨w.heap.size, 2, none⟩ = some (.int .i64 c0) ∧ W.cell? ⟨w.heap.size, 3, none⟩ = some (.int .i64 d0) ∧ W.cell? ⟨w.heap.size + 1, 0, none⟩ = some (.int .i64 p1) ∧ W.cell? ⟨w.heap.size + 1, 1, none⟩ = some (.int .i64 q1) ∧ Below w1.heap.size w1 W) → Below w1.heap.size w1 W := fun W ⟨_, _, _, _, _, _, hW⟩ => hW
  have KM0 := KM w1.drew ⟨rfl, rfl, rfl, Nat.le_refl _, fun _ _ => rfl⟩
  have KM00 := KM _ (Below.refl _ _)
  replace KA := Lib.hid KA
  replace KD := Lib.hid KD
  replace KC := Lib.hid KC
  replace KB := Lib.hid KB
  replace KL := Lib.hid KL
  clear KM kaa0 kba0 kca0 kda0 kla0 kaa1 kba1 kla1
  go_cut [5, 6] (fun s5 s6 wx => s5 = .int .i64 ri ∧ s6 = .bool ok ∧ Below w1.heap.size w1 wx)
  case first =>
    go_region_held3 (fun w' => w'.cell? ⟨w.heap.size, 0, none⟩ = some (.int .i64 a0) ∧ w'.cell? ⟨w.heap.size, 1, none⟩ = some (.int .i64 b0) ∧ w'.cell? ⟨w.heap.size, 2, none⟩ = some (.int .i64 c0) ∧ w'.cell? ⟨w.heap.size, 3, none⟩ = some (.int .i64 d0) ∧ w'.cell? ⟨w.heap.size + 1, 0, none⟩ = some (.int .i64 p1) ∧ w'.cell? ⟨w.heap.size + 1, 1, none⟩ = some (.int .i64 q1) ∧ Below w1.heap.size w1 w') ((first | (with_reducible assumption) | ((with_reducible refine KA.out _ _ ?_); (with_reducible assumption)) | ((with_reducible refine KC.out _ _ ?_ ?_); (with_reducible assumption); (with_reducible assumption)) | ((with_reducible refine KD.out _ ?_); (first | (with_reducible assumption) | ((with_reducible refine KA.out _ _ ?_); (with_reducible assumption)) | ((with_reducible refine KC.out _ _ ?_ ?_); (with_reducible assumption); (with_reducible assumption))))))
      (first
        | (go_at_call 8; (with_reducible refine (hS.out _).mono ?_); rintro e wC ⟨rfl, hbC⟩; have hSC : wC.cell? ⟨w.heap.size, 0, none⟩ = some (.int .i64 a0) ∧ wC.cell? ⟨w.heap.size, 1, none⟩ = some (.int .i64 b0) ∧ wC.cell? ⟨w.heap.size, 2, none⟩ = some (.int .i64 c0) ∧ wC.cell? ⟨w.heap.size, 3, none⟩ = some (.int .i64 d0) ∧ wC.cell? ⟨w.heap.size + 1, 0, none⟩ = some (.int .i64 p1) ∧ wC.cell? ⟨w.heap.size + 1, 1, none⟩ = some (.int .i64 q1) ∧ Below w1.heap.size w1 wC := KC.out _ _ hbC (by assumption); skip)
        | (go_at_call 10; (with_reducible refine (toFraction_any p1 q1 _).mono ?_); rintro e wA1 ⟨rfl, hbA1⟩; have hSwA1 : wA1.cell? ⟨w.heap.size, 0, none⟩ = some (.int .i64 a0) ∧ wA1.cell? ⟨w.heap.size, 1, none⟩ = some (.int .i64 b0) ∧ wA1.cell? ⟨w.heap.size, 2, none⟩ = some (.int .i64 c0) ∧ wA1.cell? ⟨w.heap.size, 3, none⟩ = some (.int .i64 d0) ∧ wA1.cell? ⟨w.heap.size + 1, 0, none⟩ = some (.int .i64 p1) ∧ wA1.cell? ⟨w.heap.size + 1, 1, none⟩ = some (.int .i64 q1) ∧ Below w1.heap.size w1 wA1 := KC.out _ _ hbA1 (by assumption); have hs1 : w1.heap.size ≤ wA1.heap.size := (KB.out _ hSwA1).size)
        | (go_at_call 9; (with_reducible refine (toCubic_any a0 b0 c0 d0 _).mono ?_); rintro e wA0 ⟨rfl, hbA0⟩; have hSwA0 : wA0.cell? ⟨w.heap.size, 0, none⟩ = some (.int .i64 a0) ∧ wA0.cell? ⟨w.heap.size, 1, none⟩ = some (.int .i64 b0) ∧ wA0.cell? ⟨w.heap.size, 2, none⟩ = some (.int .i64 c0) ∧ wA0.cell? ⟨w.heap.size, 3, none⟩ = some (.int .i64 d0) ∧ wA0.cell? ⟨w.heap.size + 1, 0, none⟩ = some (.int .i64 p1) ∧ wA0.cell? ⟨w.heap.size + 1, 1, none⟩ = some (.int .i64 q1) ∧ Below w1.heap.size w1 wA0 := KC.out _ _ hbA0 (by assumption); have hs0 : w1.heap.size ≤ wA0.heap.size := (KB.out _ hSwA0).size))
    all_goals (go_wp2_with fail; go_meet)
    all_goals refine ⟨rfl, rfl, KB.out _ ?_⟩
    all_goals (with_reducible assumption)
  obtain ⟨rfl, rfl, hb⟩ := hcut
  clear KM0 KM00 KA KD KC KB KL
  replace h := Below.step h hb
  replace hxa0 := hxa0.kept hb
  replace hxa1 := hxa1.kept hb
  clear hb
  obtain ⟨kaa0, kba0, kca0, kda0⟩ := hxa0.four
  have kla0 := hxa0.lt
  obtain ⟨kaa1, kba1⟩ := hxa1.two
  have kla1 := hxa1.lt
  go_upto_region 2 with fail
  have KM : ∀ (W : World), Below wc.heap.size wc W → (W.cell? ⟨w.heap.size, 0, none⟩ = some (.int .i64 a0) ∧ W.cell? ⟨w.heap.size, 1, none⟩ = some (.int .i64 b0) ∧ W.cell? ⟨w.heap.size, 2, none⟩ = some (.int .i64 c0) ∧ W.cell? ⟨w.heap.size, 3, none⟩ = some (.int .i64 d0) ∧ W.cell? ⟨w.heap.size + 1, 0, none⟩ = some (.int .i64 p1) ∧ W.cell? ⟨w.heap.size + 1, 1, none⟩ = some (.int .i64 q1) ∧ Below wc.heap.size wc W) := fun W hW => ⟨(hxa0.kept hW).four.1, (hxa0.kept hW).four.2.1, (hxa0.kept hW).four.2.2.1, (hxa0.kept hW).four.2.2.2, (hxa1.kept hW).two.1, (hxa1.kept hW).two.2, hW⟩
  have KA : ∀ (W : World) (o : Obj), (W.cell? ⟨w.heap.size, 0, none⟩ = some (.int .i64 a0) ∧ W.cell? ⟨w.heap.size, 1, none⟩ = some (.int .i64 b0) ∧ W.cell? ⟨w.heap.size, 2, none⟩ = some (.int .i64 c0) ∧ W.cell? ⟨w.heap.size, 3, none⟩ = some (.int .i64 d0) ∧ W.cell? ⟨w.heap.size + 1, 0, none⟩ = some (.int .i64 p1) ∧ W.cell? ⟨w.heap.size + 1, 1, none⟩ = some (.int .i64 q1) ∧ Below wc.heap.size wc W) → ((W.alloc o).cell? ⟨w.heap.size, 0, none⟩ = some (.int .i64 a0) ∧ (W.alloc o).cell? ⟨w.heap.size, 1, none⟩ = some (.int .i64 b0) ∧ (W.alloc o).cell? ⟨w.heap.size, 2, none⟩ = some (.int .i64 c0) ∧ (W.alloc o).cell? ⟨w.heap.size, 3, none⟩ = some (.int .i64 d0) ∧ (W.alloc o).cell? ⟨w.heap.size + 1, 0, none⟩ = some (.int .i64 p1) ∧ (W.alloc o).cell? ⟨w.heap.size + 1, 1, none⟩ = some (.int .i64 q1) ∧ Below wc.heap.size wc (W.alloc o)) := fun W o ⟨_, _, _, _, _, _, hW⟩ => KM _ (Below.step hW (below_alloc1 _ _))
  have KD : ∀ (W : World), (W.cell? ⟨w.heap.size, 0, none⟩ = some (.int .i64 a0) ∧ W.cell? ⟨w.heap.size, 1, none⟩ = some (.int .i64 b0) ∧ W.cell? ⟨w.heap.size, 2, none⟩ = some (.int .i64 c0) ∧ W.cell? ⟨w.heap.size, 3, none⟩ = some (.int .i64 d0) ∧ W.cell? ⟨w.heap.size + 1, 0, none⟩ = some (.int .i64 p1) ∧ W.cell? ⟨w.heap.size + 1, 1, none⟩ = some (.int .i64 q1) ∧ Below wc.heap.size wc W) → (W.drew.cell? ⟨w.heap.size, 0, none⟩ = some (.int .i64 a0) ∧ W.drew.cell? ⟨w.heap.size, 1, none⟩ = some (.int .i64 b0) ∧ W.drew.cell? ⟨w.heap.size, 2, none⟩ = some (.int .i64 c0) ∧ W.drew.cell? ⟨w.heap.size, 3, none⟩ = some (.int .i64 d0) ∧ W.drew.cell? ⟨w.heap.size + 1, 0, none⟩ = some (.int .i64 p1) ∧ W.drew.cell? ⟨w.heap.size + 1, 1, none⟩ = some (.int .i64 q1) ∧ Below wc.heap.size wc W.drew) := fun W ⟨_, _, _, _, _, _, hW⟩ => KM _ (Below.drewN' hW 1)
  have KC : ∀ (W W' : World), Below W.heap.size W W' → (W.cell? ⟨w.heap.size, 0, none⟩ = some (.int .i64 a0) ∧ W.cell? ⟨w.heap.size, 1, none⟩ = some (.int .i64 b0) ∧ W.cell? ⟨w.heap.size, 2, none⟩ = some (.int .i64 c0) ∧ W.cell? ⟨w.heap.size, 3, none⟩ = some (.int .i64 d0) ∧ W.cell? ⟨w.heap.size + 1, 0, none⟩ = some (.int .i64 p1) ∧ W.cell? ⟨w.heap.size + 1, 1, none⟩ = some (.int .i64 q1) ∧ Below wc.heap.size wc W) → (W'.cell? ⟨w.heap.size, 0, none⟩ = some (.int .i64 a0) ∧ W'.cell? ⟨w.heap.size, 1, none⟩ = some (.int .i64 b0) ∧ W'.cell? ⟨w.heap.size, 2, none⟩ = some (.int .i64 c0) ∧ W'.cell? ⟨w.heap.size, 3, none⟩ = some (.int .i64 d0) ∧ W'.cell? ⟨w.heap.size + 1, 0, none⟩ = some (.int .i64 p1) ∧ W'.cell? ⟨w.heap.size + 1, 1, none⟩ = some (.int .i64 q1) ∧ Below wc.heap.size wc W') := fun W W' hb ⟨_, _, _, _, _, _, hW⟩ => KM _ (Below.step hW hb)
  have KL : ∀ (W : World), (W.cell? ⟨w.heap.size, 0, none⟩ = some (.int .i64 a0) ∧ W.cell? ⟨w.heap.size, 1, none⟩ = some (.int .i64 b0) ∧ W.cell? ⟨w.heap.size, 2, none⟩ = some (.int .i64 c0) ∧ W.cell? ⟨w.heap.size, 3, none⟩ = some (.int .i64 d0) ∧ W.cell? ⟨w.heap.size + 1, 0, none⟩ = some (.int .i64 p1) ∧ W.cell? ⟨w.heap.size + 1, 1, none⟩ = some (.int .i64 q1) ∧ Below wc.heap.size wc W) → Lim W := fun W ⟨_, _, _, _, _, _, hW⟩ => hL.kept (Below.step h hW)
  have KB : ∀ (W : World), (W.cell? ⟨w.heap.size, 0, none⟩ = some (.int .i64 a0) ∧ W.cell? ⟨w.heap.size, 1, none⟩ = some (.int .i64 b0) ∧ W.cell? ⟨w.heap.size, 2, none⟩ = some (.int .i64 c0) ∧ W.cell? ⟨w.heap.size, 3, none⟩ = some (.int .i64 d0) ∧ W.cell? ⟨w.heap.size + 1, 0, none⟩ = some (.int .i64 p1) ∧ W.cell? ⟨w.heap.size + 1, 1, none⟩ = some (.int .i64 q1) ∧ Below wc.heap.size wc W) → Below wc.heap.size wc W := fun W ⟨_, _, _, _, _, _, hW⟩ => hW
  have KM0 := KM wc.drew ⟨rfl, rfl, rfl, Nat.le_refl _, fun _ _ => rfl⟩
  have KM00 := KM _ (Below.refl _ _)
  replace KA := Lib.hid KA
  replace KD := Lib.hid KD
  replace KC := Lib.hid KC
  replace KB := Lib.hid KB
  replace KL := Lib.hid KL
  clear KM kaa0 kba0 kca0 kda0 kla0 kaa1 kba1 kla1
  go_cut [7, 8] (fun s7 s8 wx => s7 = .int .i64 ri ∧ s8 = .bool ok ∧ Below wc.heap.size wc wx)
  case first =>
    go_region_held3 (fun w' => w'.cell? ⟨w.heap.size, 0, none⟩ = some (.int .i64 a0) ∧ w'.cell? ⟨w.heap.size, 1, none⟩ = some (.int .i64 b0) ∧ w'.cell? ⟨w.heap.size, 2, none⟩ = some (.int .i64 c0) ∧ w'.cell? ⟨w.heap.size, 3, none⟩ = some (.int .i64 d0) ∧ w'.cell? ⟨w.heap.size + 1, 0, none⟩ = some (.int .i64 p1) ∧ w'.cell? ⟨w.heap.size + 1, 1, none⟩ = some (.int .i64 q1) ∧ Below wc.heap.size wc w') ((first | (with_reducible assumption) | ((with_reducible refine KA.out _ _ ?_); (with_reducible assumption)) | ((with_reducible refine KC.out _ _ ?_ ?_); (with_reducible assumption); (with_reducible assumption)) | ((with_reducible refine KD.out _ ?_); (first | (with_reducible assumption) | ((with_reducible refine KA.out _ _ ?_); (with_reducible assumption)) | ((with_reducible refine KC.out _ _ ?_ ?_); (with_reducible assumption); (with_reducible assumption))))))
      (first
        | (go_at_call 11; (with_reducible refine (hI.out _ ?_).mono ?_); (refine KL.out _ ?_; assumption); rintro e wC ⟨rfl, hbC⟩; have hSC : wC.cell? ⟨w.heap.size, 0, none⟩ = some (.int .i64 a0) ∧ wC.cell? ⟨w.heap.size, 1, none⟩ = some (.int .i64 b0) ∧ wC.cell? ⟨w.heap.size, 2, none⟩ = some (.int .i64 c0) ∧ wC.cell? ⟨w.heap.size, 3, none⟩ = some (.int .i64 d0) ∧ wC.cell? ⟨w.heap.size + 1, 0, none⟩ = some (.int .i64 p1) ∧ wC.cell? ⟨w.heap.size + 1, 1, none⟩ = some (.int .i64 q1) ∧ Below wc.heap.size wc wC := KC.out _ _ hbC (by assumption); skip)
        | (go_at_call 10; (with_reducible refine (toFraction_any p1 q1 _).mono ?_); rintro e wA1 ⟨rfl, hbA1⟩; have hSwA1 : wA1.cell? ⟨w.heap.size, 0, none⟩ = some (.int .i64 a0) ∧ wA1.cell? ⟨w.heap.size, 1, none⟩ = some (.int .i64 b0) ∧ wA1.cell? ⟨w.heap.size, 2, none⟩ = some (.int .i64 c0) ∧ wA1.cell? ⟨w.heap.size, 3, none⟩ = some (.int .i64 d0) ∧ wA1.cell? ⟨w.heap.size + 1, 0, none⟩ = some (.int .i64 p1) ∧ wA1.cell? ⟨w.heap.size + 1, 1, none⟩ = some (.int .i64 q1) ∧ Below wc.heap.size wc wA1 := KC.out _ _ hbA1 (by assumption); have hs1 : wc.heap.size ≤ wA1.heap.size := (KB.out _ hSwA1).size)
        | (go_at_call 9; (with_reducible refine (toCubic_any a0 b0 c0 d0 _).mono ?_); rintro e wA0 ⟨rfl, hbA0⟩; have hSwA0 : wA0.cell? ⟨w.heap.size, 0, none⟩ = some (.int .i64 a0) ∧ wA0.cell? ⟨w.heap.size, 1, none⟩ = some (.int .i64 b0) ∧ wA0.cell? ⟨w.heap.size, 2, none⟩ = some (.int .i64 c0) ∧ wA0.cell? ⟨w.heap.size, 3, none⟩ = some (.int .i64 d0) ∧ wA0.cell? ⟨w.heap.size + 1, 0, none⟩ = some (.int .i64 p1) ∧ wA0.cell? ⟨w.heap.size + 1, 1, none⟩ = some (.int .i64 q1) ∧ Below wc.heap.size wc wA0 := KC.out _ _ hbA0 (by assumption); have hs0 : wc.heap.size ≤ wA0.heap.size := (KB.out _ hSwA0).size))
    all_goals (go_wp2_with fail; go_meet)
    all_goals refine ⟨rfl, rfl, KB.out _ ?_⟩
    all_goals (with_reducible assumption)
  obtain ⟨rfl, rfl, hb⟩ := hcut
  clear KM0 KM00 KA KD KC KB KL
  replace h := Below.step h hb
  replace hxa0 := hxa0.kept hb
  replace hxa1 := hxa1.kept hb
  clear hb
  obtain ⟨kaa0, kba0, kca0, kda0⟩ := hxa0.four
  have kla0 := hxa0.lt
  obtain ⟨kaa1, kba1⟩ := hxa1.two
  have kla1 := hxa1.lt
  go_wp2
  go_ret
  exact ⟨rfl, h⟩

set_option maxHeartbeats 4000000 in
set_option maxRecDepth 100000 in
theorem lawFactorOut_core (a0 b0 c0 d0 : Int) (p1 q1 : Int) (w : World) (hL : Lim w)  (ri : Int) (ri1 : Int) (ri2 : Int) (ok : Bool)
    (hS : ∀ (W : World), Calls Tryd.prog 17 #[.agg #[.int .i64 a0, .int .i64 b0, .int .i64 c0, .int .i64 d0], .agg #[.int .i64 p1, .int .i64 q1]] W (GivesIIIB W ri ri1 ri2 ok))
    (hI : ∀ (W : World), Lim W → Calls Tryd.prog 18 #[.agg #[.int .i64 a0, .int .i64 b0, .int .i64 c0, .int .i64 d0], .agg #[.int .i64 p1, .int .i64 q1]] W (GivesIIIB W ri ri1 ri2 ok)) :
    Calls Tryd.prog 5 #[.agg #[.int .i64 a0, .int .i64 b0, .int .i64 c0, .int .i64 d0], .agg #[.int .i64 p1, .int .i64 q1]] w fun e w' => e = .returned (.bool true) ∧ Below w.heap.size w w' := by
  replace hS := Lib.hid hS
  replace hI := Lib.hid hI
  have eri : (ri != ri) = false := by simp
  have eri1 : (ri1 != ri1) = false := by simp
  have eri2 : (ri2 != ri2) = false := by simp
  have eok : (ok != ok) = false := by simp
  have h := Below.refl w.heap.size w
  have hA := below_alloc1 w (.cells #[.int .i64 a0, .int .i64 b0, .int .i64 c0, .int .i64 d0] 23)
  replace h := Below.step h hA
  have hxa0 := Box.new w 23 #[.int .i64 a0, .int .i64 b0, .int .i64 c0, .int .i64 d0]
  clear hA
  have hA := below_alloc1 (w.alloc (.cells #[.int .i64 a0, .int .i64 b0, .int .i64 c0, .int .i64 d0] 23)) (.cells #[.int .i64 p1, .int .i64 q1] 25)
  replace h := Below.step h hA
  replace hxa0 := hxa0.kept hA
  have hxa1 := Box.new (w.alloc (.cells #[.int .i64 a0, .int .i64 b0, .int .i64 c0, .int .i64 d0] 23)) 25 #[.int .i64 p1, .int .i64 q1]
  rw [show (w.alloc (.cells #[.int .i64 a0, .int .i64 b0, .int .i64 c0, .int .i64 d0] 23)).heap.size = w.heap.size + 1 from by simp] at hxa1
  clear hA
  go_enter Tryd.func5, Tryd.ntmps5
  obtain ⟨kaa0, kba0, kca0, kda0⟩ := hxa0.four
  have kla0 := hxa0.lt
  obtain ⟨kaa1, kba1⟩ := hxa1.two
  have kla1 := hxa1.lt
  go_upto_region 1 with fail
  generalize ((w.alloc (.cells #[.int .i64 a0, .int .i64 b0, .int .i64 c0, .int .i64 d0] 23)).alloc (.cells #[.int .i64 p1, .int .i64 q1] 25)) = w1 at *
  have KM : ∀ (W : World), Below w1.heap.size w1 W → (W.cell? ⟨w.heap.size, 0, none⟩ = some (.int .i64 a0) ∧ W.cell? ⟨w.heap.size, 1, none⟩ = some (.int .i64 b0) ∧ W.cell? ⟨w.heap.size, 2, none⟩ = some (.int .i64 c0) ∧ W.cell? ⟨w.heap.size, 3, none⟩ = some (.int .i64 d0) ∧ W.cell? ⟨w.heap.size + 1, 0, none⟩ = some (.int .i64 p1) ∧ W.cell? ⟨w.heap.size + 1, 1, none⟩ = some (.int .i64 q1) ∧ Below w1.heap.size w1 W) := fun W hW => ⟨(hxa0.kept hW).four.1, (hxa0.kept hW).four.2.1, (hxa0.kept hW).four.2.2.1, (hxa0.kept hW).four.2.2.2, (hxa1.kept hW).two.1, (hxa1.kept hW).two.2, hW⟩
  have KA : ∀ (W : World) (o : Obj), (W.cell? ⟨w.heap.size, 0, none⟩ = some (.int .i64 a0) ∧ W.cell? ⟨w.heap.size, 1, none⟩ = some (.int .i64 b0) ∧ W.cell? ⟨w.heap.size, 2, none⟩ = some (.int .i64 c0) ∧ W.cell? ⟨w.heap.size, 3, none⟩ = some (.int .i64 d0) ∧ W.cell? ⟨w.heap.size + 1, 0, none⟩ = some (.int .i64 p1) ∧ W.cell? ⟨w.heap.size + 1, 1, none⟩ = some (.int .i64 q1) ∧ Below w1.heap.size w1 W) → ((W.alloc o).cell? ⟨w.heap.size, 0, none⟩ = some (.int .i64 a0) ∧ (W.alloc o).cell? ⟨w.heap.size, 1, none⟩ = some (.int .i64 b0) ∧ (W.alloc o).cell? ⟨w.heap.size, 2, none⟩ = some (.int .i64 c0) ∧ (W.alloc o).cell? ⟨w.heap.size, 3, none⟩ = some (.int .i64 d0) ∧ (W.alloc o).cell? ⟨w.heap.size + 1, 0, none⟩ = some (.int .i64 p1) ∧ (W.alloc o).cell? ⟨w.heap.size + 1, 1, none⟩ = some (.int .i64 q1) ∧ Below w1.heap.size w1 (W.alloc o)) := fun W o ⟨_, _, _, _, _, _, hW⟩ => KM _ (Below.step hW (below_alloc1 _ _))
  have KD : ∀ (W : World), (W.cell? ⟨w.heap.size, 0, none⟩ = some (.int .i64 a0) ∧ W.cell? ⟨w.heap.size, 1, none⟩ = some (.int .i64 b0) ∧ W.cell? ⟨w.heap.size, 2, none⟩ = some (.int .i64 c0) ∧ W.cell? ⟨w.heap.size, 3, none⟩ = some (.int .i64 d0) ∧ W.cell? ⟨w.heap.size + 1, 0, none⟩ = some (.int .i64 p1) ∧ W.cell? ⟨w.heap.size + 1, 1, none⟩ = some (.int .i64 q1) ∧ Below w1.heap.size w1 W) → (W.drew.cell? ⟨w.heap.size, 0, none⟩ = some (.int .i64 a0) ∧ W.drew.cell? ⟨w.heap.size, 1, none⟩ = some (.int .i64 b0) ∧ W.drew.cell? ⟨w.heap.size, 2, none⟩ = some (.int .i64 c0) ∧ W.drew.cell? ⟨w.heap.size, 3, none⟩ = some (.int .i64 d0) ∧ W.drew.cell? ⟨w.heap.size + 1, 0, none⟩ = some (.int .i64 p1) ∧ W.drew.cell? ⟨w.heap.size + 1, 1, none⟩ = some (.int .i64 q1) ∧ Below w1.heap.size w1 W.drew) := fun W ⟨_, _, _, _, _, _, hW⟩ => KM _ (Below.drewN' hW 1)
  have KC : ∀ (W W' : World), Below W.heap.size W W' → (W.cell? ⟨w.heap.size, 0, none⟩ = some (.int .i64 a0) ∧ W.cell? ⟨w.heap.size, 1, none⟩ = some (.int .i64 b0) ∧ W.cell? ⟨w.heap.size, 2, none⟩ = some (.int .i64 c0) ∧ W.cell? ⟨w.heap.size, 3, none⟩ = some (.int .i64 d0) ∧ W.cell? ⟨w.heap.size + 1, 0, none⟩ = some (.int .i64 p1) ∧ W.cell? ⟨w.heap.size + 1, 1, none⟩ = some (.int .i64 q1) ∧ Below w1.heap.size w1 W) → (W'.cell? ⟨w.heap.size, 0, none⟩ = some (.int .i64 a0) ∧ W'.cell? ⟨w.heap.size, 1, none⟩ = some (.int .i64 b0) ∧ W'.cell? ⟨w.heap.size, 2, none⟩ = some (.int .i64 c0) ∧ W'.cell? ⟨w.heap.size, 3, none⟩ = some (.int .i64 d0) ∧ W'.cell? ⟨w.heap.size + 1, 0, none⟩ = some (.int .i64 p1) ∧ W'.cell? ⟨w.heap.size + 1, 1, none⟩ = some (.int .i64 q1) ∧ Below w1.heap.size w1 W') := fun W W' hb ⟨_, _, _, _, _, _, hW⟩ => KM _ (Below.step hW hb)
  have KL : ∀ (W : World), (W.cell? ⟨w.heap.size, 0, none⟩ = some (.int .i64 a0) ∧ W.cell? ⟨w.heap.size, 1, none⟩ = some (.int .i64 b0) ∧ W.cell? ⟨w.heap.size, 2, none⟩ = some (.int .i64 c0) ∧ W.cell? ⟨w.heap.size, 3, none⟩ = some (.int .i64 d0) ∧ W.cell? ⟨w.heap.size + 1, 0, none⟩ = some (.int .i64 p1) ∧ W.cell? ⟨w.heap.size + 1, 1, none⟩ = some (.int .i64 q1) ∧ Below w1.heap.size w1 W) → Lim W := fun W ⟨_, _, _, _, _, _, hW⟩ => hL.kept (Below.step h hW)
  have KB : ∀ (W : World), (W.cell? ⟨w.heap.size, 0, none⟩ = some (.int .i64 a0) ∧ W.cell? ⟨w.heap.size, 1, none⟩ = some (.int .i64 b0) ∧ W.cell? ⟨w.heap.size, 2, none⟩ = some (.int .i64 c0) ∧ W.cell? ⟨w.heap.size, 3, none⟩ = some (.int .i64 d0) ∧ W.cell? ⟨w.heap.size + 1, 0, none⟩ = some (.int .i64 p1) ∧ W.cell? ⟨w.heap.size + 1, 1, none⟩ = some (.int .i64 q1) ∧ Below w1.heap.size w1 W) → Below w1.heap.size w1 W := fun W ⟨_, _, _, _, _, _, hW⟩ => hW
  have KM0 := KM w1.drew ⟨rfl, rfl, rfl, Nat.le_refl _, fun _ _ => rfl⟩
  have KM00 := KM _ (Below.refl _ _)
  replace KA := Lib.hid KA
  replace KD := Lib.hid KD
  replace KC := Lib.hid KC
  replace KB := Lib.hid KB
  replace KL := Lib.hid KL
  clear KM kaa0 kba0 kca0 kda0 kla0 kaa1 kba1 kla1
  go_cut [5, 6, 7, 8] (fun s5 s6 s7 s8 wx => s5 = .int .i64 ri ∧ s6 = .int .i64 ri1 ∧ s7 = .int .i64 ri2 ∧ s8 = .bool ok ∧ Below w1.heap.size w1 wx)
  case first =>
    go_region_held3 (fun w' => w'.cell? ⟨w.heap.size, 0, none⟩ = some (.int .i64 a0) ∧ w'.cell? ⟨w.heap.size, 1, none⟩ = some (.int .i64 b0) ∧ w'.cell? ⟨w.heap.size, 2, none⟩ = some (.int .i64 c0) ∧ w'.cell? ⟨w.heap.size, 3, none⟩ = some (.int .i64 d0) ∧ w'.cell? ⟨w.heap.size + 1, 0, none⟩ = some (.int .i64 p1) ∧ w'.cell? ⟨w.heap.size + 1, 1, none⟩ = some (.int .i64 q1) ∧ Below w1.heap.size w1 w') ((first | (with_reducible assumption) | ((with_reducible refine KA.out _ _ ?_); (with_reducible assumption)) | ((with_reducible refine KC.out _ _ ?_ ?_); (with_reducible assumption); (with_reducible assumption)) | ((with_reducible refine KD.out _ ?_); (first | (with_reducible assumption) | ((with_reducible refine KA.out _ _ ?_); (with_reducible assumption)) | ((with_reducible refine KC.out _ _ ?_ ?_); (with_reducible assumption); (with_reducible assumption))))))
      (first
        | (go_at_call 17; (with_reducible refine (hS.out _).mono ?_); rintro e wC ⟨rfl, hbC⟩; have hSC : wC.cell? ⟨w.heap.size, 0, none⟩ = some (.int .i64 a0) ∧ wC.cell? ⟨w.heap.size, 1, none⟩ = some (.int .i64 b0) ∧ wC.cell? ⟨w.heap.size, 2, none⟩ = some (.int .i64 c0) ∧ wC.cell? ⟨w.heap.size, 3, none⟩ = some (.int .i64 d0) ∧ wC.cell? ⟨w.heap.size + 1, 0, none⟩ = some (.int .i64 p1) ∧ wC.cell? ⟨w.heap.size + 1, 1, none⟩ = some (.int .i64 q1) ∧ Below w1.heap.size w1 wC := KC.out _ _ hbC (by assumption); skip)
        | (go_at_call 10; (with_reducible refine (toFraction_any p1 q1 _).mono ?_); rintro e wA1 ⟨rfl, hbA1⟩; have hSwA1 : wA1.cell? ⟨w.heap.size, 0, none⟩ = some (.int .i64 a0) ∧ wA1.cell? ⟨w.heap.size, 1, none⟩ = some (.int .i64 b0) ∧ wA1.cell? ⟨w.heap.size, 2, none⟩ = some (.int .i64 c0) ∧ wA1.cell? ⟨w.heap.size, 3, none⟩ = some (.int .i64 d0) ∧ wA1.cell? ⟨w.heap.size + 1, 0, none⟩ = some (.int .i64 p1) ∧ wA1.cell? ⟨w.heap.size + 1, 1, none⟩ = some (.int .i64 q1) ∧ Below w1.heap.size w1 wA1 := KC.out _ _ hbA1 (by assumption); have hs1 : w1.heap.size ≤ wA1.heap.size := (KB.out _ hSwA1).size)
        | (go_at_call 9; (with_reducible refine (toCubic_any a0 b0 c0 d0 _).mono ?_); rintro e wA0 ⟨rfl, hbA0⟩; have hSwA0 : wA0.cell? ⟨w.heap.size, 0, none⟩ = some (.int .i64 a0) ∧ wA0.cell? ⟨w.heap.size, 1, none⟩ = some (.int .i64 b0) ∧ wA0.cell? ⟨w.heap.size, 2, none⟩ = some (.int .i64 c0) ∧ wA0.cell? ⟨w.heap.size, 3, none⟩ = some (.int .i64 d0) ∧ wA0.cell? ⟨w.heap.size + 1, 0, none⟩ = some (.int .i64 p1) ∧ wA0.cell? ⟨w.heap.size + 1, 1, none⟩ = some (.int .i64 q1) ∧ Below w1.heap.size w1 wA0 := KC.out _ _ hbA0 (by assumption); have hs0 : w1.heap.size ≤ wA0.heap.size := (KB.out _ hSwA0).size))
    all_goals (go_wp2_with fail; go_meet)
    all_goals refine ⟨rfl, rfl, rfl, rfl, KB.out _ ?_⟩
    all_goals (with_reducible assumption)
  obtain ⟨rfl, rfl, rfl, rfl, hb⟩ := hcut
  clear KM0 KM00 KA KD KC KB KL
  replace h := Below.step h hb
  replace hxa0 := hxa0.kept hb
  replace hxa1 := hxa1.kept hb
  clear hb
  obtain ⟨kaa0, kba0, kca0, kda0⟩ := hxa0.four
  have kla0 := hxa0.lt
  obtain ⟨kaa1, kba1⟩ := hxa1.two
  have kla1 := hxa1.lt
  go_upto_region 2 with fail
  have KM : ∀ (W : World), Below wc.heap.size wc W → (W.cell? ⟨w.heap.size, 0, none⟩ = some (.int .i64 a0) ∧ W.cell? ⟨w.heap.size, 1, none⟩ = some (.int .i64 b0) ∧ W.cell? ⟨w.heap.size, 2, none⟩ = some (.int .i64 c0) ∧ W.cell? ⟨w.heap.size, 3, none⟩ = some (.int .i64 d0) ∧ W.cell? ⟨w.heap.size + 1, 0, none⟩ = some (.int .i64 p1) ∧ W.cell? ⟨w.heap.size + 1, 1, none⟩ = some (.int .i64 q1) ∧ Below wc.heap.size wc W) := fun W hW => ⟨(hxa0.kept hW).four.1, (hxa0.kept hW).four.2.1, (hxa0.kept hW).four.2.2.1, (hxa0.kept hW).four.2.2.2, (hxa1.kept hW).two.1, (hxa1.kept hW).two.2, hW⟩
  have KA : ∀ (W : World) (o : Obj), (W.cell? ⟨w.heap.size, 0, none⟩ = some (.int .i64 a0) ∧ W.cell? ⟨w.heap.size, 1, none⟩ = some (.int .i64 b0) ∧ W.cell? ⟨w.heap.size, 2, none⟩ = some (.int .i64 c0) ∧ W.cell? ⟨w.heap.size, 3, none⟩ = some (.int .i64 d0) ∧ W.cell? ⟨w.heap.size + 1, 0, none⟩ = some (.int .i64 p1) ∧ W.cell? ⟨w.heap.size + 1, 1, none⟩ = some (.int .i64 q1) ∧ Below wc.heap.size wc W) → ((W.alloc o).cell? ⟨w.heap.size, 0, none⟩ = some (.int .i64 a0) ∧ (W.alloc o).cell? ⟨w.heap.size, 1, none⟩ = some (.int .i64 b0) ∧ (W.alloc o).cell? ⟨w.heap.size, 2, none⟩ = some (.int .i64 c0) ∧ (W.alloc o).cell? ⟨w.heap.size, 3, none⟩ = some (.int .i64 d0) ∧ (W.alloc o).cell? ⟨w.heap.size + 1, 0, none⟩ = some (.int .i64 p1) ∧ (W.alloc o).cell? ⟨w.heap.size + 1, 1, none⟩ = some (.int .i64 q1) ∧ Below wc.heap.size wc (W.alloc o)) := fun W o ⟨_, _, _, _, _, _, hW⟩ => KM _ (Below.step hW (below_alloc1 _ _))
  have KD : ∀ (W : World), (W.cell? ⟨w.heap.size, 0, none⟩ = some (.int .i64 a0) ∧ W.cell? ⟨w.heap.size, 1, none⟩ = some (.int .i64 b0) ∧ W.cell? ⟨w.heap.size, 2, none⟩ = some (.int .i64 c0) ∧ W.cell? ⟨w.heap.size, 3, none⟩ = some (.int .i64 d0) ∧ W.cell? ⟨w.heap.size + 1, 0, none⟩ = some (.int .i64 p1) ∧ W.cell? ⟨w.heap.size + 1, 1, none⟩ = some (.int .i64 q1) ∧ Below wc.heap.size wc W) → (W.drew.cell? ⟨w.heap.size, 0, none⟩ = some (.int .i64 a0) ∧ W.drew.cell? ⟨w.heap.size, 1, none⟩ = some (.int .i64 b0) ∧ W.drew.cell? ⟨w.heap.size, 2, none⟩ = some (.int .i64 c0) ∧ W.drew.cell? ⟨w.heap.size, 3, none⟩ = some (.int .i64 d0) ∧ W.drew.cell? ⟨w.heap.size + 1, 0, none⟩ = some (.int .i64 p1) ∧ W.drew.cell? ⟨w.heap.size + 1, 1, none⟩ = some (.int .i64 q1) ∧ Below wc.heap.size wc W.drew) := fun W ⟨_, _, _, _, _, _, hW⟩ => KM _ (Below.drewN' hW 1)
  have KC : ∀ (W W' : World), Below W.heap.size W W' → (W.cell? ⟨w.heap.size, 0, none⟩ = some (.int .i64 a0) ∧ W.cell? ⟨w.heap.size, 1, none⟩ = some (.int .i64 b0) ∧ W.cell? ⟨w.heap.size, 2, none⟩ = some (.int .i64 c0) ∧ W.cell? ⟨w.heap.size, 3, none⟩ = some (.int .i64 d0) ∧ W.cell? ⟨w.heap.size + 1, 0, none⟩ = some (.int .i64 p1) ∧ W.cell? ⟨w.heap.size + 1, 1, none⟩ = some (.int .i64 q1) ∧ Below wc.heap.size wc W) → (W'.cell? ⟨w.heap.size, 0, none⟩ = some (.int .i64 a0) ∧ W'.cell? ⟨w.heap.size, 1, none⟩ = some (.int .i64 b0) ∧ W'.cell? ⟨w.heap.size, 2, none⟩ = some (.int .i64 c0) ∧ W'.cell? ⟨w.heap.size, 3, none⟩ = some (.int .i64 d0) ∧ W'.cell? ⟨w.heap.size + 1, 0, none⟩ = some (.int .i64 p1) ∧ W'.cell? ⟨w.heap.size + 1, 1, none⟩ = some (.int .i64 q1) ∧ Below wc.heap.size wc W') := fun W W' hb ⟨_, _, _, _, _, _, hW⟩ => KM _ (Below.step hW hb)
  have KL : ∀ (W : World), (W.cell? ⟨w.heap.size, 0, none⟩ = some (.int .i64 a0) ∧ W.cell? ⟨w.heap.size, 1, none⟩ = some (.int .i64 b0) ∧ W.cell? ⟨w.heap.size, 2, none⟩ = some (.int .i64 c0) ∧ W.cell? ⟨w.heap.size, 3, none⟩ = some (.int .i64 d0) ∧ W.cell? ⟨w.heap.size + 1, 0, none⟩ = some (.int .i64 p1) ∧ W.cell? ⟨w.heap.size + 1, 1, none⟩ = some (.int .i64 q1) ∧ Below wc.heap.size wc W) → Lim W := fun W ⟨_, _, _, _, _, _, hW⟩ => hL.kept (Below.step h hW)
  have KB : ∀ (W : World), (W.cell? ⟨w.heap.size, 0, none⟩ = some (.int .i64 a0) ∧ W.cell? ⟨w.heap.size, 1, none⟩ = some (.int .i64 b0) ∧ W.cell? ⟨w.heap.size, 2, none⟩ = some (.int .i64 c0) ∧ W.cell? ⟨w.heap.size, 3, none⟩ = some (.int .i64 d0) ∧ W.cell? ⟨w.heap.size + 1, 0, none⟩ = some (.int .i64 p1) ∧ W.cell? ⟨w.heap.size + 1, 1, none⟩ = some (.int .i64 q1) ∧ Below wc.heap.size wc W) → Below wc.heap.size wc W := fun W ⟨_, _, _, _, _, _, hW⟩ => hW
  have KM0 := KM wc.drew ⟨rfl, rfl, rfl, Nat.le_refl _, fun _ _ => rfl⟩
  have KM00 := KM _ (Below.refl _ _)
  replace KA := Lib.hid KA
  replace KD := Lib.hid KD
  replace KC := Lib.hid KC
  replace KB := Lib.hid KB
  replace KL := Lib.hid KL
  clear KM kaa0 kba0 kca0 kda0 kla0 kaa1 kba1 kla1
  go_cut [9, 10, 11, 12] (fun s9 s10 s11 s12 wx => s9 = .int .i64 ri ∧ s10 = .int .i64 ri1 ∧ s11 = .int .i64 ri2 ∧ s12 = .bool ok ∧ Below wc.heap.size wc wx)
  case first =>
    go_region_held3 (fun w' => w'.cell? ⟨w.heap.size, 0, none⟩ = some (.int .i64 a0) ∧ w'.cell? ⟨w.heap.size, 1, none⟩ = some (.int .i64 b0) ∧ w'.cell? ⟨w.heap.size, 2, none⟩ = some (.int .i64 c0) ∧ w'.cell? ⟨w.heap.size, 3, none⟩ = some (.int .i64 d0) ∧ w'.cell? ⟨w.heap.size + 1, 0, none⟩ = some (.int .i64 p1) ∧ w'.cell? ⟨w.heap.size + 1, 1, none⟩ = some (.int .i64 q1) ∧ Below wc.heap.size wc w') ((first | (with_reducible assumption) | ((with_reducible refine KA.out _ _ ?_); (with_reducible assumption)) | ((with_reducible refine KC.out _ _ ?_ ?_); (with_reducible assumption); (with_reducible assumption)) | ((with_reducible refine KD.out _ ?_); (first | (with_reducible assumption) | ((with_reducible refine KA.out _ _ ?_); (with_reducible assumption)) | ((with_reducible refine KC.out _ _ ?_ ?_); (with_reducible assumption); (with_reducible assumption))))))
      (first
        | (go_at_call 18; (with_reducible refine (hI.out _ ?_).mono ?_); (refine KL.out _ ?_; assumption); rintro e wC ⟨rfl, hbC⟩; have hSC : wC.cell? ⟨w.heap.size, 0, none⟩ = some (.int .i64 a0) ∧ wC.cell? ⟨w.heap.size, 1, none⟩ = some (.int .i64 b0) ∧ wC.cell? ⟨w.heap.size, 2, none⟩ = some (.int .i64 c0) ∧ wC.cell? ⟨w.heap.size, 3, none⟩ = some (.int .i64 d0) ∧ wC.cell? ⟨w.heap.size + 1, 0, none⟩ = some (.int .i64 p1) ∧ wC.cell? ⟨w.heap.size + 1, 1, none⟩ = some (.int .i64 q1) ∧ Below wc.heap.size wc wC := KC.out _ _ hbC (by assumption); skip)
        | (go_at_call 10; (with_reducible refine (toFraction_any p1 q1 _).mono ?_); rintro e wA1 ⟨rfl, hbA1⟩; have hSwA1 : wA1.cell? ⟨w.heap.size, 0, none⟩ = some (.int .i64 a0) ∧ wA1.cell? ⟨w.heap.size, 1, none⟩ = some (.int .i64 b0) ∧ wA1.cell? ⟨w.heap.size, 2, none⟩ = some (.int .i64 c0) ∧ wA1.cell? ⟨w.heap.size, 3, none⟩ = some (.int .i64 d0) ∧ wA1.cell? ⟨w.heap.size + 1, 0, none⟩ = some (.int .i64 p1) ∧ wA1.cell? ⟨w.heap.size + 1, 1, none⟩ = some (.int .i64 q1) ∧ Below wc.heap.size wc wA1 := KC.out _ _ hbA1 (by assumption); have hs1 : wc.heap.size ≤ wA1.heap.size := (KB.out _ hSwA1).size)
        | (go_at_call 9; (with_reducible refine (toCubic_any a0 b0 c0 d0 _).mono ?_); rintro e wA0 ⟨rfl, hbA0⟩; have hSwA0 : wA0.cell? ⟨w.heap.size, 0, none⟩ = some (.int .i64 a0) ∧ wA0.cell? ⟨w.heap.size, 1, none⟩ = some (.int .i64 b0) ∧ wA0.cell? ⟨w.heap.size, 2, none⟩ = some (.int .i64 c0) ∧ wA0.cell? ⟨w.heap.size, 3, none⟩ = some (.int .i64 d0) ∧ wA0.cell? ⟨w.heap.size + 1, 0, none⟩ = some (.int .i64 p1) ∧ wA0.cell? ⟨w.heap.size + 1, 1, none⟩ = some (.int .i64 q1) ∧ Below wc.heap.size wc wA0 := KC.out _ _ hbA0 (by assumption); have hs0 : wc.heap.size ≤ wA0.heap.size := (KB.out _ hSwA0).size))
    all_goals (go_wp2_with fail; go_meet)
    all_goals refine ⟨rfl, rfl, rfl, rfl, KB.out _ ?_⟩
    all_goals (with_reducible assumption)
  obtain ⟨rfl, rfl, rfl, rfl, hb⟩ := hcut
  clear KM0 KM00 KA KD KC KB KL
  replace h := Below.step h hb
  replace hxa0 := hxa0.kept hb
  replace hxa1 := hxa1.kept hb
  clear hb
  obtain ⟨kaa0, kba0, kca0, kda0⟩ := hxa0.four
  have kla0 := hxa0.lt
  obtain ⟨kaa1, kba1⟩ := hxa1.two
  have kla1 := hxa1.lt
  go_wp2
  go_ret
  exact ⟨rfl, h⟩
end Go.Proofs.YtjamckcbgcejdaaDoor
