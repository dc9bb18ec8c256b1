/- Cores of exact laws that hand back rows of points (written by wip/gen/plaw.py). -/
import Derived.Test.YtabcnkobojkdhaaPLaw
import Derived.Test.YtabcnkobojkdhaaFrLaw0
import Derived.Deep.DeepCutAuto
import Derived.Deep.RegionHeld3
namespace Go.Proofs.Ytabcnkobojkdhaa
open Go.RowKit Go.Joins

set_option maxHeartbeats 4000000 in
set_option maxRecDepth 100000 in
theorem lawPointsAtX_core (a0 b0 : Int) (p1 q1 : Int) (w : World) (rs : List P3) (hrs : rs.length ≤ 1000) (ok : Bool)
    (hS : ∀ (W : World), Calls Try.prog 14 #[.agg #[.int .i64 a0, .int .i64 b0], .agg #[.int .i64 p1, .int .i64 q1]] W (GivesPRowOk W rs ok))
    (hI : ∀ (W : World), Calls Try.prog 16 #[.agg #[.int .i64 a0, .int .i64 b0], .agg #[.int .i64 p1, .int .i64 q1]] W (GivesPRowOk W rs ok)) :
    Calls Try.prog 5 #[.agg #[.int .i64 a0, .int .i64 b0], .agg #[.int .i64 p1, .int .i64 q1]] w fun e w' => e = .returned (.bool true) ∧ Below w.heap.size w w' := by
  replace hS := Lib.hid hS
  replace hI := Lib.hid hI
  have eok : (ok != ok) = false := by simp
  have e2 : (1 + 3 * (rs.length : Int) != 1 + 3 * rs.length) = false := by simp
  have h := Below.refl w.heap.size w
  have hA := below_alloc1 w (.cells #[.int .i64 a0, .int .i64 b0] 23)
  replace h := Below.step h hA
  have hxa0 := Box.new w 23 #[.int .i64 a0, .int .i64 b0]
  clear hA
  have hA := below_alloc1 (w.alloc (.cells #[.int .i64 a0, .int .i64 b0] 23)) (.cells #[.int .i64 p1, .int .i64 q1] 36)
  replace h := Below.step h hA
  replace hxa0 := hxa0.kept hA
  have hxa1 := Box.new (w.alloc (.cells #[.int .i64 a0, .int .i64 b0] 23)) 36 #[.int .i64 p1, .int .i64 q1]
  rw [show (w.alloc (.cells #[.int .i64 a0, .int .i64 b0] 23)).heap.size = w.heap.size + 1 from by simp] at hxa1
  clear hA
  go_enter Try.func5, Try.ntmps5
  obtain ⟨ka_0, kb_0⟩ := hxa0.two
  have kl_0 := hxa0.lt
  obtain ⟨ka_1, kb_1⟩ := hxa1.two
  have kl_1 := hxa1.lt
  go_upto_region 1 with fail
  generalize ((w.alloc (.cells #[.int .i64 a0, .int .i64 b0] 23)).alloc (.cells #[.int .i64 p1, .int .i64 q1] 36)) = wr1 at *
  have KM : ∀ (W : World), Below wr1.heap.size wr1 W → (W.cell? ⟨w.heap.size, 0, none⟩ = some (.int .i64 a0) ∧ W.cell? ⟨w.heap.size, 1, none⟩ = some (.int .i64 b0) ∧ W.cell? ⟨w.heap.size + 1, 0, none⟩ = some (.int .i64 p1) ∧ W.cell? ⟨w.heap.size + 1, 1, none⟩ = some (.int .i64 q1) ∧ Below wr1.heap.size wr1 W) := fun W hW => ⟨(hxa0.kept hW).two.1, (hxa0.kept hW).two.2, (hxa1.kept hW).two.1, (hxa1.kept hW).two.2, hW⟩
  have KA : ∀ (W : World) (o : Obj), (W.cell? ⟨w.heap.size, 0, none⟩ = some (.int .i64 a0) ∧ W.cell? ⟨w.heap.size, 1, none⟩ = some (.int .i64 b0) ∧ W.cell? ⟨w.heap.size + 1, 0, none⟩ = some (.int .i64 p1) ∧ W.cell? ⟨w.heap.size + 1, 1, none⟩ = some (.int .i64 q1) ∧ Below wr1.heap.size wr1 W) → ((W.alloc o).cell? ⟨w.heap.size, 0, none⟩ = some (.int .i64 a0) ∧ (W.alloc o).cell? ⟨w.heap.size, 1, none⟩ = some (.int .i64 b0) ∧ (W.alloc o).cell? ⟨w.heap.size + 1, 0, none⟩ = some (.int .i64 p1) ∧ (W.alloc o).cell? ⟨w.heap.size + 1, 1, none⟩ = some (.int .i64 q1) ∧ Below wr1.heap.size wr1 (W.alloc o)) := fun W o ⟨_, _, _, _, hW⟩ => KM _ (Below.step hW (below_alloc1 _ _))
  have KD : ∀ (W : World), (W.cell? ⟨w.heap.size, 0, none⟩ = some (.int .i64 a0) ∧ W.cell? ⟨w.heap.size, 1, none⟩ = some (.int .i64 b0) ∧ W.cell? ⟨w.heap.size + 1, 0, none⟩ = some (.int .i64 p1) ∧ W.cell? ⟨w.heap.size + 1, 1, none⟩ = some (.int .i64 q1) ∧ Below wr1.heap.size wr1 W) → (W.drew.cell? ⟨w.heap.size, 0, none⟩ = some (.int .i64 a0) ∧ W.drew.cell? ⟨w.heap.size, 1, none⟩ = some (.int .i64 b0) ∧ W.drew.cell? ⟨w.heap.size + 1, 0, none⟩ = some (.int .i64 p1) ∧ W.drew.cell? ⟨w.heap.size + 1, 1, none⟩ = some (.int .i64 q1) ∧ Below wr1.heap.size wr1 W.drew) := fun W ⟨_, _, _, _, hW⟩ => KM _ (Below.drewN' hW 1)
  have KC : ∀ (W W' : World), Below W.heap.size W W' → (W.cell? ⟨w.heap.size, 0, none⟩ = some (.int .i64 a0) ∧ W.cell? ⟨w.heap.size, 1, none⟩ = some (.int .i64 b0) ∧ W.cell? ⟨w.heap.size + 1, 0, none⟩ = some (.int .i64 p1) ∧ W.cell? ⟨w.heap.size + 1, 1, none⟩ = some (.int .i64 q1) ∧ Below wr1.heap.size wr1 W) → (W'.cell? ⟨w.heap.size, 0, none⟩ = some (.int .i64 a0) ∧ W'.cell? ⟨w.heap.size, 1, none⟩ = some (.int .i64 b0) ∧ W'.cell? ⟨w.heap.size + 1, 0, none⟩ = some (.int .i64 p1) ∧ W'.cell? ⟨w.heap.size + 1, 1, none⟩ = some (.int .i64 q1) ∧ Below wr1.heap.size wr1 W') := fun W W' hb ⟨_, _, _, _, hW⟩ => KM _ (Below.step hW hb)
  have KB : ∀ (W : World), (W.cell? ⟨w.heap.size, 0, none⟩ = some (.int .i64 a0) ∧ W.cell? ⟨w.heap.size, 1, none⟩ = some (.int .i64 b0) ∧ W.cell? ⟨w.heap.size + 1, 0, none⟩ = some (.int .i64 p1) ∧ W.cell? ⟨w.heap.size + 1, 1, none⟩ = some (.int .i64 q1) ∧ Below wr1.heap.size wr1 W) → Below wr1.heap.size wr1 W := fun W ⟨_, _, _, _, hW⟩ => hW
  have KM0 := KM wr1.drew ⟨rfl, rfl, rfl, Nat.le_refl _, fun _ _ => rfl⟩
  have KM00 := KM _ (Below.refl _ _)
  replace KA := Lib.hid KA
  replace KD := Lib.hid KD
  replace KC := Lib.hid KC
  replace KB := Lib.hid KB
  clear KM ka_0 kb_0 kl_0 ka_1 kb_1 kl_1
  go_cut [5, 6] (fun s1 s2 wx => ∃ (A : Option Addr) (cc : Nat), s1 = .slice A rs.length cc ∧ s2 = .bool ok ∧ OwnP wx wr1.heap.size (.slice A rs.length cc) rs ∧ Below wr1.heap.size wr1 wx)
  case first =>
    go_region_held3 (fun w' => w'.cell? ⟨w.heap.size, 0, none⟩ = some (.int .i64 a0) ∧ w'.cell? ⟨w.heap.size, 1, none⟩ = some (.int .i64 b0) ∧ w'.cell? ⟨w.heap.size + 1, 0, none⟩ = some (.int .i64 p1) ∧ w'.cell? ⟨w.heap.size + 1, 1, none⟩ = some (.int .i64 q1) ∧ Below wr1.heap.size wr1 w') ((first | (with_reducible assumption) | ((with_reducible refine KA.out _ _ ?_); (with_reducible assumption)) | ((with_reducible refine KC.out _ _ ?_ ?_); (with_reducible assumption); (with_reducible assumption)) | ((with_reducible refine KD.out _ ?_); (first | (with_reducible assumption) | ((with_reducible refine KA.out _ _ ?_); (with_reducible assumption)) | ((with_reducible refine KC.out _ _ ?_ ?_); (with_reducible assumption); (with_reducible assumption))))))
      (first
        | (go_at_call 14; (with_reducible refine (hS.out _).mono ?_); rintro e wC ⟨AC, cC, rfl, hoC, hbC⟩; have hSC : wC.cell? ⟨w.heap.size, 0, none⟩ = some (.int .i64 a0) ∧ wC.cell? ⟨w.heap.size, 1, none⟩ = some (.int .i64 b0) ∧ wC.cell? ⟨w.heap.size + 1, 0, none⟩ = some (.int .i64 p1) ∧ wC.cell? ⟨w.heap.size + 1, 1, none⟩ = some (.int .i64 q1) ∧ Below wr1.heap.size wr1 wC := KC.out _ _ hbC (by assumption); (first | have hoD := hoC.le hs0 | have hoD := hoC.le hs1))
        | (go_at_call 15; (with_reducible refine (toFraction_any p1 q1 _).mono ?_); rintro e wA1 ⟨rfl, hbA1⟩; have hSwA1 : wA1.cell? ⟨w.heap.size, 0, none⟩ = some (.int .i64 a0) ∧ wA1.cell? ⟨w.heap.size, 1, none⟩ = some (.int .i64 b0) ∧ wA1.cell? ⟨w.heap.size + 1, 0, none⟩ = some (.int .i64 p1) ∧ wA1.cell? ⟨w.heap.size + 1, 1, none⟩ = some (.int .i64 q1) ∧ Below wr1.heap.size wr1 wA1 := KC.out _ _ hbA1 (by assumption); have hs1 : wr1.heap.size ≤ wA1.heap.size := (KB.out _ hSwA1).size)
        | (go_at_call 8; (with_reducible refine (toCurve_any a0 b0 _).mono ?_); rintro e wA0 ⟨rfl, hbA0⟩; have hSwA0 : wA0.cell? ⟨w.heap.size, 0, none⟩ = some (.int .i64 a0) ∧ wA0.cell? ⟨w.heap.size, 1, none⟩ = some (.int .i64 b0) ∧ wA0.cell? ⟨w.heap.size + 1, 0, none⟩ = some (.int .i64 p1) ∧ wA0.cell? ⟨w.heap.size + 1, 1, none⟩ = some (.int .i64 q1) ∧ Below wr1.heap.size wr1 wA0 := KC.out _ _ hbA0 (by assumption); have hs0 : wr1.heap.size ≤ wA0.heap.size := (KB.out _ hSwA0).size))
    all_goals (go_wp2_with fail; go_meet)
    all_goals refine ⟨_, _, rfl, rfl, ?_, KB.out _ ?_⟩
    all_goals (first | (with_reducible assumption) | ((with_reducible refine KD.out _ ?_); (with_reducible assumption)) | exact hoD | exact hoD.kept ⟨rfl, rfl, rfl, Nat.le_refl _, fun _ _ => rfl⟩)
  obtain ⟨Aw, cw, rfl, rfl, how, hb⟩ := hcut
  clear KM0 KM00 KA KD KC KB
  have hrw := how.rd
  clear how
  replace h := Below.step h hb
  replace hxa0 := hxa0.kept hb
  replace hxa1 := hxa1.kept hb
  clear hb
  have lo := h.size
  have lt0 := hxa0.lt
  have lt1 := hxa1.lt
  obtain ⟨ka_0, kb_0⟩ := hxa0.two
  have kl_0 := hxa0.lt
  obtain ⟨ka_1, kb_1⟩ := hxa1.two
  have kl_1 := hxa1.lt
  go_upto_region 2 with fail
  have KM : ∀ (W : World), Below wc.heap.size wc W → (W.cell? ⟨w.heap.size, 0, none⟩ = some (.int .i64 a0) ∧ W.cell? ⟨w.heap.size, 1, none⟩ = some (.int .i64 b0) ∧ W.cell? ⟨w.heap.size + 1, 0, none⟩ = some (.int .i64 p1) ∧ W.cell? ⟨w.heap.size + 1, 1, none⟩ = some (.int .i64 q1) ∧ Below wc.heap.size wc W) := fun W hW => ⟨(hxa0.kept hW).two.1, (hxa0.kept hW).two.2, (hxa1.kept hW).two.1, (hxa1.kept hW).two.2, hW⟩
  have KA : ∀ (W : World) (o : Obj), (W.cell? ⟨w.heap.size, 0, none⟩ = some (.int .i64 a0) ∧ W.cell? ⟨w.heap.size, 1, none⟩ = some (.int .i64 b0) ∧ W.cell? ⟨w.heap.size + 1, 0, none⟩ = some (.int .i64 p1) ∧ W.cell? ⟨w.heap.size + 1, 1, none⟩ = some (.int .i64 q1) ∧ Below wc.heap.size wc W) → ((W.alloc o).cell? ⟨w.heap.size, 0, none⟩ = some (.int .i64 a0) ∧ (W.alloc o).cell? ⟨w.heap.size, 1, none⟩ = some (.int .i64 b0) ∧ (W.alloc o).cell? ⟨w.heap.size + 1, 0, none⟩ = some (.int .i64 p1) ∧ (W.alloc o).cell? ⟨w.heap.size + 1, 1, none⟩ = some (.int .i64 q1) ∧ Below wc.heap.size wc (W.alloc o)) := fun W o ⟨_, _, _, _, hW⟩ => KM _ (Below.step hW (below_alloc1 _ _))
  have KD : ∀ (W : World), (W.cell? ⟨w.heap.size, 0, none⟩ = some (.int .i64 a0) ∧ W.cell? ⟨w.heap.size, 1, none⟩ = some (.int .i64 b0) ∧ W.cell? ⟨w.heap.size + 1, 0, none⟩ = some (.int .i64 p1) ∧ W.cell? ⟨w.heap.size + 1, 1, none⟩ = some (.int .i64 q1) ∧ Below wc.heap.size wc W) → (W.drew.cell? ⟨w.heap.size, 0, none⟩ = some (.int .i64 a0) ∧ W.drew.cell? ⟨w.heap.size, 1, none⟩ = some (.int .i64 b0) ∧ W.drew.cell? ⟨w.heap.size + 1, 0, none⟩ = some (.int .i64 p1) ∧ W.drew.cell? ⟨w.heap.size + 1, 1, none⟩ = some (.int .i64 q1) ∧ Below wc.heap.size wc W.drew) := fun W ⟨_, _, _, _, hW⟩ => KM _ (Below.drewN' hW 1)
  have KC : ∀ (W W' : World), Below W.heap.size W W' → (W.cell? ⟨w.heap.size, 0, none⟩ = some (.int .i64 a0) ∧ W.cell? ⟨w.heap.size, 1, none⟩ = some (.int .i64 b0) ∧ W.cell? ⟨w.heap.size + 1, 0, none⟩ = some (.int .i64 p1) ∧ W.cell? ⟨w.heap.size + 1, 1, none⟩ = some (.int .i64 q1) ∧ Below wc.heap.size wc W) → (W'.cell? ⟨w.heap.size, 0, none⟩ = some (.int .i64 a0) ∧ W'.cell? ⟨w.heap.size, 1, none⟩ = some (.int .i64 b0) ∧ W'.cell? ⟨w.heap.size + 1, 0, none⟩ = some (.int .i64 p1) ∧ W'.cell? ⟨w.heap.size + 1, 1, none⟩ = some (.int .i64 q1) ∧ Below wc.heap.size wc W') := fun W W' hb ⟨_, _, _, _, hW⟩ => KM _ (Below.step hW hb)
  have KB : ∀ (W : World), (W.cell? ⟨w.heap.size, 0, none⟩ = some (.int .i64 a0) ∧ W.cell? ⟨w.heap.size, 1, none⟩ = some (.int .i64 b0) ∧ W.cell? ⟨w.heap.size + 1, 0, none⟩ = some (.int .i64 p1) ∧ W.cell? ⟨w.heap.size + 1, 1, none⟩ = some (.int .i64 q1) ∧ Below wc.heap.size wc W) → Below wc.heap.size wc W := fun W ⟨_, _, _, _, hW⟩ => hW
  have KM0 := KM wc.drew ⟨rfl, rfl, rfl, Nat.le_refl _, fun _ _ => rfl⟩
  have KM00 := KM _ (Below.refl _ _)
  replace KA := Lib.hid KA
  replace KD := Lib.hid KD
  replace KC := Lib.hid KC
  replace KB := Lib.hid KB
  clear KM ka_0 kb_0 kl_0 ka_1 kb_1 kl_1
  go_cut [7, 8] (fun s1 s2 wx => ∃ (A : Option Addr) (cc : Nat), s1 = .slice A rs.length cc ∧ s2 = .bool ok ∧ OwnP wx wc.heap.size (.slice A rs.length cc) rs ∧ Below wc.heap.size wc wx)
  case first =>
    go_region_held3 (fun w' => w'.cell? ⟨w.heap.size, 0, none⟩ = some (.int .i64 a0) ∧ w'.cell? ⟨w.heap.size, 1, none⟩ = some (.int .i64 b0) ∧ w'.cell? ⟨w.heap.size + 1, 0, none⟩ = some (.int .i64 p1) ∧ w'.cell? ⟨w.heap.size + 1, 1, none⟩ = some (.int .i64 q1) ∧ Below wc.heap.size wc w') ((first | (with_reducible assumption) | ((with_reducible refine KA.out _ _ ?_); (with_reducible assumption)) | ((with_reducible refine KC.out _ _ ?_ ?_); (with_reducible assumption); (with_reducible assumption)) | ((with_reducible refine KD.out _ ?_); (first | (with_reducible assumption) | ((with_reducible refine KA.out _ _ ?_); (with_reducible assumption)) | ((with_reducible refine KC.out _ _ ?_ ?_); (with_reducible assumption); (with_reducible assumption))))))
      (first
        | (go_at_call 16; (with_reducible refine (hI.out _).mono ?_); rintro e wC ⟨AC, cC, rfl, hoC, hbC⟩; have hSC : wC.cell? ⟨w.heap.size, 0, none⟩ = some (.int .i64 a0) ∧ wC.cell? ⟨w.heap.size, 1, none⟩ = some (.int .i64 b0) ∧ wC.cell? ⟨w.heap.size + 1, 0, none⟩ = some (.int .i64 p1) ∧ wC.cell? ⟨w.heap.size + 1, 1, none⟩ = some (.int .i64 q1) ∧ Below wc.heap.size wc wC := KC.out _ _ hbC (by assumption); (first | have hoD := hoC.le hs0 | have hoD := hoC.le hs1))
        | (go_at_call 15; (with_reducible refine (toFraction_any p1 q1 _).mono ?_); rintro e wA1 ⟨rfl, hbA1⟩; have hSwA1 : wA1.cell? ⟨w.heap.size, 0, none⟩ = some (.int .i64 a0) ∧ wA1.cell? ⟨w.heap.size, 1, none⟩ = some (.int .i64 b0) ∧ wA1.cell? ⟨w.heap.size + 1, 0, none⟩ = some (.int .i64 p1) ∧ wA1.cell? ⟨w.heap.size + 1, 1, none⟩ = some (.int .i64 q1) ∧ Below wc.heap.size wc wA1 := KC.out _ _ hbA1 (by assumption); have hs1 : wc.heap.size ≤ wA1.heap.size := (KB.out _ hSwA1).size)
        | (go_at_call 8; (with_reducible refine (toCurve_any a0 b0 _).mono ?_); rintro e wA0 ⟨rfl, hbA0⟩; have hSwA0 : wA0.cell? ⟨w.heap.size, 0, none⟩ = some (.int .i64 a0) ∧ wA0.cell? ⟨w.heap.size, 1, none⟩ = some (.int .i64 b0) ∧ wA0.cell? ⟨w.heap.size + 1, 0, none⟩ = some (.int .i64 p1) ∧ wA0.cell? ⟨w.heap.size + 1, 1, none⟩ = some (.int .i64 q1) ∧ Below wc.heap.size wc wA0 := KC.out _ _ hbA0 (by assumption); have hs0 : wc.heap.size ≤ wA0.heap.size := (KB.out _ hSwA0).size))
    all_goals (go_wp2_with fail; go_meet)
    all_goals refine ⟨_, _, rfl, rfl, ?_, KB.out _ ?_⟩
    all_goals (first | (with_reducible assumption) | ((with_reducible refine KD.out _ ?_); (with_reducible assumption)) | exact hoD | exact hoD.kept ⟨rfl, rfl, rfl, Nat.le_refl _, fun _ _ => rfl⟩)
  obtain ⟨Ag, cg, rfl, rfl, hog, hb⟩ := hcut
  clear KM0 KM00 KA KD KC KB
  have hs := hb.size
  replace h := Below.step h hb
  replace hxa0 := hxa0.kept hb
  replace hxa1 := hxa1.kept hb
  replace hrw := hrw.below hb
  clear hb
  obtain ⟨ka_0, kb_0⟩ := hxa0.two
  have kl_0 := hxa0.lt
  obtain ⟨ka_1, kb_1⟩ := hxa1.two
  have kl_1 := hxa1.lt
  go_wp2_with fail
  refine (eqPS_yes Ag Aw _ cg cw rs _ (by omega) hog.rd (hrw.more hs)).mono ?_
  rintro e w5 ⟨rfl, hb⟩
  replace hog := hog.kept hb
  replace hrw := hrw.below (hb.mono hs)
  replace hs := Nat.le_trans hs hb.size
  replace h := Below.step h hb
  replace hxa0 := hxa0.kept hb
  replace hxa1 := hxa1.kept hb
  clear hb ka_0 kb_0 kl_0 ka_1 kb_1 kl_1
  obtain ⟨ka_0, kb_0⟩ := hxa0.two
  have kl_0 := hxa0.lt
  obtain ⟨ka_1, kb_1⟩ := hxa1.two
  have kl_1 := hxa1.lt
  go_wp2_with fail
  refine (markPS_any Ag cg _ rs 1 _ (by omega) (by omega) hog).mono ?_
  rintro e w6 ⟨rfl, hm, hg⟩
  replace h := below_ownP h hog lo hg
  replace hrw := (hrw.aside hog (Nat.le_refl _) hg).more (Nat.le_trans hs hg.size)
  replace hxa0 := hxa0.ownP_aside hog hg lt0
  replace hxa1 := hxa1.ownP_aside hog hg lt1
  have hmk := rdZ3_of hm
  clear hm hg hog lo hs lt0 lt1 ka_0 kb_0 kl_0 ka_1 kb_1 kl_1
  obtain ⟨ka_0, kb_0⟩ := hxa0.two
  have kl_0 := hxa0.lt
  obtain ⟨ka_1, kb_1⟩ := hxa1.two
  have kl_1 := hxa1.lt
  go_wp2_with fail
  refine (heldPS_any Ag rs.length cg _ 1 _ (by omega) (by omega) hmk).mono ?_
  rintro e w7 ⟨rfl, rfl⟩
  clear ka_0 kb_0 kl_0 ka_1 kb_1 kl_1
  obtain ⟨ka_0, kb_0⟩ := hxa0.two
  have kl_0 := hxa0.lt
  obtain ⟨ka_1, kb_1⟩ := hxa1.two
  have kl_1 := hxa1.lt
  go_upto_region 13 with fail
  have KM : ∀ (W : World), Below w6.heap.size w6 W → (W.cell? ⟨w.heap.size, 0, none⟩ = some (.int .i64 a0) ∧ W.cell? ⟨w.heap.size, 1, none⟩ = some (.int .i64 b0) ∧ W.cell? ⟨w.heap.size + 1, 0, none⟩ = some (.int .i64 p1) ∧ W.cell? ⟨w.heap.size + 1, 1, none⟩ = some (.int .i64 q1) ∧ Below w6.heap.size w6 W) := fun W hW => ⟨(hxa0.kept hW).two.1, (hxa0.kept hW).two.2, (hxa1.kept hW).two.1, (hxa1.kept hW).two.2, hW⟩
  have KA : ∀ (W : World) (o : Obj), (W.cell? ⟨w.heap.size, 0, none⟩ = some (.int .i64 a0) ∧ W.cell? ⟨w.heap.size, 1, none⟩ = some (.int .i64 b0) ∧ W.cell? ⟨w.heap.size + 1, 0, none⟩ = some (.int .i64 p1) ∧ W.cell? ⟨w.heap.size + 1, 1, none⟩ = some (.int .i64 q1) ∧ Below w6.heap.size w6 W) → ((W.alloc o).cell? ⟨w.heap.size, 0, none⟩ = some (.int .i64 a0) ∧ (W.alloc o).cell? ⟨w.heap.size, 1, none⟩ = some (.int .i64 b0) ∧ (W.alloc o).cell? ⟨w.heap.size + 1, 0, none⟩ = some (.int .i64 p1) ∧ (W.alloc o).cell? ⟨w.heap.size + 1, 1, none⟩ = some (.int .i64 q1) ∧ Below w6.heap.size w6 (W.alloc o)) := fun W o ⟨_, _, _, _, hW⟩ => KM _ (Below.step hW (below_alloc1 _ _))
  have KD : ∀ (W : World), (W.cell? ⟨w.heap.size, 0, none⟩ = some (.int .i64 a0) ∧ W.cell? ⟨w.heap.size, 1, none⟩ = some (.int .i64 b0) ∧ W.cell? ⟨w.heap.size + 1, 0, none⟩ = some (.int .i64 p1) ∧ W.cell? ⟨w.heap.size + 1, 1, none⟩ = some (.int .i64 q1) ∧ Below w6.heap.size w6 W) → (W.drew.cell? ⟨w.heap.size, 0, none⟩ = some (.int .i64 a0) ∧ W.drew.cell? ⟨w.heap.size, 1, none⟩ = some (.int .i64 b0) ∧ W.drew.cell? ⟨w.heap.size + 1, 0, none⟩ = some (.int .i64 p1) ∧ W.drew.cell? ⟨w.heap.size + 1, 1, none⟩ = some (.int .i64 q1) ∧ Below w6.heap.size w6 W.drew) := fun W ⟨_, _, _, _, hW⟩ => KM _ (Below.drewN' hW 1)
  have KC : ∀ (W W' : World), Below W.heap.size W W' → (W.cell? ⟨w.heap.size, 0, none⟩ = some (.int .i64 a0) ∧ W.cell? ⟨w.heap.size, 1, none⟩ = some (.int .i64 b0) ∧ W.cell? ⟨w.heap.size + 1, 0, none⟩ = some (.int .i64 p1) ∧ W.cell? ⟨w.heap.size + 1, 1, none⟩ = some (.int .i64 q1) ∧ Below w6.heap.size w6 W) → (W'.cell? ⟨w.heap.size, 0, none⟩ = some (.int .i64 a0) ∧ W'.cell? ⟨w.heap.size, 1, none⟩ = some (.int .i64 b0) ∧ W'.cell? ⟨w.heap.size + 1, 0, none⟩ = some (.int .i64 p1) ∧ W'.cell? ⟨w.heap.size + 1, 1, none⟩ = some (.int .i64 q1) ∧ Below w6.heap.size w6 W') := fun W W' hb ⟨_, _, _, _, hW⟩ => KM _ (Below.step hW hb)
  have KB : ∀ (W : World), (W.cell? ⟨w.heap.size, 0, none⟩ = some (.int .i64 a0) ∧ W.cell? ⟨w.heap.size, 1, none⟩ = some (.int .i64 b0) ∧ W.cell? ⟨w.heap.size + 1, 0, none⟩ = some (.int .i64 p1) ∧ W.cell? ⟨w.heap.size + 1, 1, none⟩ = some (.int .i64 q1) ∧ Below w6.heap.size w6 W) → Below w6.heap.size w6 W := fun W ⟨_, _, _, _, hW⟩ => hW
  have KM0 := KM w6.drew ⟨rfl, rfl, rfl, Nat.le_refl _, fun _ _ => rfl⟩
  have KM00 := KM _ (Below.refl _ _)
  replace KA := Lib.hid KA
  replace KD := Lib.hid KD
  replace KC := Lib.hid KC
  replace KB := Lib.hid KB
  clear KM ka_0 kb_0 kl_0 ka_1 kb_1 kl_1
  go_cut [11, 12] (fun s1 s2 wx => ∃ (A : Option Addr) (cc : Nat), s1 = .slice A rs.length cc ∧ s2 = .bool ok ∧ OwnP wx w6.heap.size (.slice A rs.length cc) rs ∧ Below w6.heap.size w6 wx)
  case first =>
    go_region_held3 (fun w' => w'.cell? ⟨w.heap.size, 0, none⟩ = some (.int .i64 a0) ∧ w'.cell? ⟨w.heap.size, 1, none⟩ = some (.int .i64 b0) ∧ w'.cell? ⟨w.heap.size + 1, 0, none⟩ = some (.int .i64 p1) ∧ w'.cell? ⟨w.heap.size + 1, 1, none⟩ = some (.int .i64 q1) ∧ Below w6.heap.size w6 w') ((first | (with_reducible assumption) | ((with_reducible refine KA.out _ _ ?_); (with_reducible assumption)) | ((with_reducible refine KC.out _ _ ?_ ?_); (with_reducible assumption); (with_reducible assumption)) | ((with_reducible refine KD.out _ ?_); (first | (with_reducible assumption) | ((with_reducible refine KA.out _ _ ?_); (with_reducible assumption)) | ((with_reducible refine KC.out _ _ ?_ ?_); (with_reducible assumption); (with_reducible assumption))))))
      (first
        | (go_at_call 16; (with_reducible refine (hI.out _).mono ?_); rintro e wC ⟨AC, cC, rfl, hoC, hbC⟩; have hSC : wC.cell? ⟨w.heap.size, 0, none⟩ = some (.int .i64 a0) ∧ wC.cell? ⟨w.heap.size, 1, none⟩ = some (.int .i64 b0) ∧ wC.cell? ⟨w.heap.size + 1, 0, none⟩ = some (.int .i64 p1) ∧ wC.cell? ⟨w.heap.size + 1, 1, none⟩ = some (.int .i64 q1) ∧ Below w6.heap.size w6 wC := KC.out _ _ hbC (by assumption); (first | have hoD := hoC.le hs0 | have hoD := hoC.le hs1))
        | (go_at_call 15; (with_reducible refine (toFraction_any p1 q1 _).mono ?_); rintro e wA1 ⟨rfl, hbA1⟩; have hSwA1 : wA1.cell? ⟨w.heap.size, 0, none⟩ = some (.int .i64 a0) ∧ wA1.cell? ⟨w.heap.size, 1, none⟩ = some (.int .i64 b0) ∧ wA1.cell? ⟨w.heap.size + 1, 0, none⟩ = some (.int .i64 p1) ∧ wA1.cell? ⟨w.heap.size + 1, 1, none⟩ = some (.int .i64 q1) ∧ Below w6.heap.size w6 wA1 := KC.out _ _ hbA1 (by assumption); have hs1 : w6.heap.size ≤ wA1.heap.size := (KB.out _ hSwA1).size)
        | (go_at_call 8; (with_reducible refine (toCurve_any a0 b0 _).mono ?_); rintro e wA0 ⟨rfl, hbA0⟩; have hSwA0 : wA0.cell? ⟨w.heap.size, 0, none⟩ = some (.int .i64 a0) ∧ wA0.cell? ⟨w.heap.size, 1, none⟩ = some (.int .i64 b0) ∧ wA0.cell? ⟨w.heap.size + 1, 0, none⟩ = some (.int .i64 p1) ∧ wA0.cell? ⟨w.heap.size + 1, 1, none⟩ = some (.int .i64 q1) ∧ Below w6.heap.size w6 wA0 := KC.out _ _ hbA0 (by assumption); have hs0 : w6.heap.size ≤ wA0.heap.size := (KB.out _ hSwA0).size))
    all_goals (go_wp2_with fail; go_meet)
    all_goals refine ⟨_, _, rfl, rfl, ?_, KB.out _ ?_⟩
    all_goals (first | (with_reducible assumption) | ((with_reducible refine KD.out _ ?_); (with_reducible assumption)) | exact hoD | exact hoD.kept ⟨rfl, rfl, rfl, Nat.le_refl _, fun _ _ => rfl⟩)
  obtain ⟨Ah, ch, rfl, rfl, hoh, hb⟩ := hcut
  clear KM0 KM00 KA KD KC KB
  have hrh := hoh.rd
  clear hoh
  replace h := Below.step h hb
  replace hxa0 := hxa0.kept hb
  replace hxa1 := hxa1.kept hb
  replace hrw := hrw.kept hb
  replace hmk := hmk.kept hb
  clear hb
  obtain ⟨ka_0, kb_0⟩ := hxa0.two
  have kl_0 := hxa0.lt
  obtain ⟨ka_1, kb_1⟩ := hxa1.two
  have kl_1 := hxa1.lt
  go_wp2_with fail
  refine (eqPS_yes Ah Aw _ ch cw rs _ (by omega) hrh hrw).mono ?_
  rintro e w10 ⟨rfl, hb⟩
  clear hrh hrw
  replace h := Below.step h hb
  replace hxa0 := hxa0.kept hb
  replace hxa1 := hxa1.kept hb
  replace hmk := hmk.kept hb
  clear hb ka_0 kb_0 kl_0 ka_1 kb_1 kl_1
  obtain ⟨ka_0, kb_0⟩ := hxa0.two
  have kl_0 := hxa0.lt
  obtain ⟨ka_1, kb_1⟩ := hxa1.two
  have kl_1 := hxa1.lt
  go_wp2_with fail
  refine (heldPS_any Ag rs.length cg _ 1 _ (by omega) (by omega) hmk).mono ?_
  rintro e w11 ⟨rfl, rfl⟩
  clear ka_0 kb_0 kl_0 ka_1 kb_1 kl_1
  obtain ⟨ka_0, kb_0⟩ := hxa0.two
  have kl_0 := hxa0.lt
  obtain ⟨ka_1, kb_1⟩ := hxa1.two
  have kl_1 := hxa1.lt
  go_wp2_with fail
  go_ret
  exact ⟨rfl, h⟩
end Go.Proofs.Ytabcnkobojkdhaa
