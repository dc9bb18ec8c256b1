/- The core of the law of DifferenceOf (written by wip/gen/frlaw.py): it answers true if the model and the program hand back the same. -/
import Derived.Test.YtjkbpcigpfahjaaDoorFrLaw0
import Derived.Deep.RegionHeld3
import Derived.Deep.DeepCutAuto
namespace Go.Proofs.YtjkbpcigpfahjaaDoor
open Go.RowKit Go.Joins

set_option maxHeartbeats 4000000 in
set_option maxRecDepth 100000 in
theorem lawDifferenceOf_core (p0 q0 : Int) (p1 q1 : Int) (w : World) (hL : Lim w) (rp rq : Int) (b0 : Bool)
    (hS : ∀ W : World, Calls Tryd.prog 15 #[.agg #[.int .i64 p0, .int .i64 q0], .agg #[.int .i64 p1, .int .i64 q1]] W (GivesFB W rp rq b0))
    (hI : ∀ W : World, Lim W → Calls Tryd.prog 16 #[.agg #[.int .i64 p0, .int .i64 q0], .agg #[.int .i64 p1, .int .i64 q1]] W (GivesFB W rp rq b0)) :
    Calls Tryd.prog 5 #[.agg #[.int .i64 p0, .int .i64 q0], .agg #[.int .i64 p1, .int .i64 q1]] w fun e w' => e = .returned (.bool true) ∧ Below w.heap.size w w' := by
  replace hS := Lib.hid hS
  replace hI := Lib.hid hI
  have eb0 : (b0 != b0) = false := by simp
  have h := Below.refl w.heap.size w
  have hA := below_alloc1 w (.cells #[.int .i64 p0, .int .i64 q0] 28)
  replace h := Below.step h hA
  have hxa0 := Box.new w 28 #[.int .i64 p0, .int .i64 q0]
  clear hA
  have hA := below_alloc1 (w.alloc (.cells #[.int .i64 p0, .int .i64 q0] 28)) (.cells #[.int .i64 p1, .int .i64 q1] 28)
  replace h := Below.step h hA
  replace hxa0 := hxa0.kept hA
  have hxa1 := Box.new (w.alloc (.cells #[.int .i64 p0, .int .i64 q0] 28)) 28 #[.int .i64 p1, .int .i64 q1]
  rw [show (w.alloc (.cells #[.int .i64 p0, .int .i64 q0] 28)).heap.size = w.heap.size + 1 from by simp] at hxa1
  clear hA
  go_enter Tryd.func5, Tryd.ntmps5
  obtain ⟨ga0, hga0⟩ : ∃ g, g = w.heap.size := ⟨_, rfl⟩
  obtain ⟨ga1, hga1⟩ : ∃ g, g = w.heap.size + 1 := ⟨_, rfl⟩
  obtain ⟨kaa0, kba0⟩ := hxa0.two
  have kla0 := hxa0.lt
  obtain ⟨kaa1, kba1⟩ := hxa1.two
  have kla1 := hxa1.lt
  go_wp2_with fail
  rw [← hga1] at hxa1 kaa1 kba1 kla1 ⊢
  rw [← hga0] at hxa0 kaa0 kba0 kla0 ⊢
  clear hga0 hga1
  clear kaa0 kba0 kla0 kaa1 kba1 kla1
  obtain ⟨kaa0, kba0⟩ := hxa0.two
  have kla0 := hxa0.lt
  obtain ⟨kaa1, kba1⟩ := hxa1.two
  have kla1 := hxa1.lt
  go_upto_region 1 with fail
  generalize ((w.alloc (.cells #[.int .i64 p0, .int .i64 q0] 28)).alloc (.cells #[.int .i64 p1, .int .i64 q1] 28)) = w1 at *
  have KM : ∀ (W : World), Below w1.heap.size w1 W → (W.cell? ⟨ga0, 0, none⟩ = some (.int .i64 p0) ∧ W.cell? ⟨ga0, 1, none⟩ = some (.int .i64 q0) ∧ W.cell? ⟨ga1, 0, none⟩ = some (.int .i64 p1) ∧ W.cell? ⟨ga1, 1, none⟩ = some (.int .i64 q1) ∧ Below w1.heap.size w1 W) := fun W hW => ⟨(hxa0.kept hW).two.1, (hxa0.kept hW).two.2, (hxa1.kept hW).two.1, (hxa1.kept hW).two.2, hW⟩
  have KA : ∀ (W : World) (o : Obj), (W.cell? ⟨ga0, 0, none⟩ = some (.int .i64 p0) ∧ W.cell? ⟨ga0, 1, none⟩ = some (.int .i64 q0) ∧ W.cell? ⟨ga1, 0, none⟩ = some (.int .i64 p1) ∧ W.cell? ⟨ga1, 1, none⟩ = some (.int .i64 q1) ∧ Below w1.heap.size w1 W) → ((W.alloc o).cell? ⟨ga0, 0, none⟩ = some (.int .i64 p0) ∧ (W.alloc o).cell? ⟨ga0, 1, none⟩ = some (.int .i64 q0) ∧ (W.alloc o).cell? ⟨ga1, 0, none⟩ = some (.int .i64 p1) ∧ (W.alloc o).cell? ⟨ga1, 1, none⟩ = some (.int .i64 q1) ∧ Below w1.heap.size w1 (W.alloc o)) := fun W o ⟨_, _, _, _, hW⟩ => KM _ (Below.step hW (below_alloc1 _ _))
  have KS : ∀ (W : World) (g i j : Nat) (u v : Value), w1.heap.size ≤ g → (W.cell? ⟨ga0, 0, none⟩ = some (.int .i64 p0) ∧ W.cell? ⟨ga0, 1, none⟩ = some (.int .i64 q0) ∧ W.cell? ⟨ga1, 0, none⟩ = some (.int .i64 p1) ∧ W.cell? ⟨ga1, 1, none⟩ = some (.int .i64 q1) ∧ Below w1.heap.size w1 W) → (((W.setCell ⟨g, i, none⟩ u).setCell ⟨g, j, none⟩ v).cell? ⟨ga0, 0, none⟩ = some (.int .i64 p0) ∧ ((W.setCell ⟨g, i, none⟩ u).setCell ⟨g, j, none⟩ v).cell? ⟨ga0, 1, none⟩ = some (.int .i64 q0) ∧ ((W.setCell ⟨g, i, none⟩ u).setCell ⟨g, j, none⟩ v).cell? ⟨ga1, 0, none⟩ = some (.int .i64 p1) ∧ ((W.setCell ⟨g, i, none⟩ u).setCell ⟨g, j, none⟩ v).cell? ⟨ga1, 1, none⟩ = some (.int .i64 q1) ∧ Below w1.heap.size w1 ((W.setCell ⟨g, i, none⟩ u).setCell ⟨g, j, none⟩ v)) := fun W g i j u v hg ⟨_, _, _, _, hW⟩ => KM _ ((hW.setCell hg _).setCell hg _)
  have KC : ∀ (W W' : World), Below W.heap.size W W' → (W.cell? ⟨ga0, 0, none⟩ = some (.int .i64 p0) ∧ W.cell? ⟨ga0, 1, none⟩ = some (.int .i64 q0) ∧ W.cell? ⟨ga1, 0, none⟩ = some (.int .i64 p1) ∧ W.cell? ⟨ga1, 1, none⟩ = some (.int .i64 q1) ∧ Below w1.heap.size w1 W) → (W'.cell? ⟨ga0, 0, none⟩ = some (.int .i64 p0) ∧ W'.cell? ⟨ga0, 1, none⟩ = some (.int .i64 q0) ∧ W'.cell? ⟨ga1, 0, none⟩ = some (.int .i64 p1) ∧ W'.cell? ⟨ga1, 1, none⟩ = some (.int .i64 q1) ∧ Below w1.heap.size w1 W') := fun W W' hb ⟨_, _, _, _, hW⟩ => KM _ (Below.step hW hb)
  have KL : ∀ (W : World), (W.cell? ⟨ga0, 0, none⟩ = some (.int .i64 p0) ∧ W.cell? ⟨ga0, 1, none⟩ = some (.int .i64 q0) ∧ W.cell? ⟨ga1, 0, none⟩ = some (.int .i64 p1) ∧ W.cell? ⟨ga1, 1, none⟩ = some (.int .i64 q1) ∧ Below w1.heap.size w1 W) → Lim W := fun W ⟨_, _, _, _, hW⟩ => hL.kept (Below.step h hW)
  have KB : ∀ (W : World), (W.cell? ⟨ga0, 0, none⟩ = some (.int .i64 p0) ∧ W.cell? ⟨ga0, 1, none⟩ = some (.int .i64 q0) ∧ W.cell? ⟨ga1, 0, none⟩ = some (.int .i64 p1) ∧ W.cell? ⟨ga1, 1, none⟩ = some (.int .i64 q1) ∧ Below w1.heap.size w1 W) → Below w1.heap.size w1 W := fun W ⟨_, _, _, _, hW⟩ => hW
  have KM0 := KM w1.drew ⟨rfl, rfl, rfl, Nat.le_refl _, fun _ _ => rfl⟩
  have KM00 := KM _ (Below.refl _ _)
  replace KA := Lib.hid KA
  replace KS := Lib.hid KS
  replace KC := Lib.hid KC
  replace KB := Lib.hid KB
  replace KL := Lib.hid KL
  clear KM
  go_cut [5, 6] (fun s5 s6 wx => ∃ (g : Nat), s5 = .pointer (some ⟨g, 0, none⟩) ∧ s6 = .bool b0 ∧ Box wx g 23 #[.int .i64 rp, .int .i64 rq] ∧ Below w1.heap.size w1 wx)
  case first =>
    go_region_held3 (fun w' => w'.cell? ⟨ga0, 0, none⟩ = some (.int .i64 p0) ∧ w'.cell? ⟨ga0, 1, none⟩ = some (.int .i64 q0) ∧ w'.cell? ⟨ga1, 0, none⟩ = some (.int .i64 p1) ∧ w'.cell? ⟨ga1, 1, none⟩ = some (.int .i64 q1) ∧ Below w1.heap.size w1 w') ((first | assumption | (refine KA.out _ _ ?_; assumption) | (apply KC.out; assumption; assumption) | (refine KA.out (World.drew _) _ ?_; assumption) | (refine KS.out _ _ _ _ _ _ ?_ ?_; (first | exact Nat.le_refl _ | exact hs0 | exact hs1 | fail); assumption)))
      (first
        | (go_at_call 15; (with_reducible refine (hS.out _).mono ?_); rintro e wC ⟨rfl, hbC⟩; have hSC : wC.cell? ⟨ga0, 0, none⟩ = some (.int .i64 p0) ∧ wC.cell? ⟨ga0, 1, none⟩ = some (.int .i64 q0) ∧ wC.cell? ⟨ga1, 0, none⟩ = some (.int .i64 p1) ∧ wC.cell? ⟨ga1, 1, none⟩ = some (.int .i64 q1) ∧ Below w1.heap.size w1 wC := KC.out _ _ hbC (by assumption); (first | have hgC := hgA1.kept hbC | have hgC := (Box.new wA1 23 #[.int .i64 0, .int .i64 0]).kept hbC | skip); (first | (obtain ⟨u0, u1⟩ := hgC.two; have u2 := hgC.free 0; have u3 := hgC.free 1) | skip))
        | (go_at_call 13; (with_reducible refine (toFraction_any p1 q1 _).mono ?_); rintro e wA1 ⟨rfl, hbA1⟩; have hSwA1 : wA1.cell? ⟨ga0, 0, none⟩ = some (.int .i64 p0) ∧ wA1.cell? ⟨ga0, 1, none⟩ = some (.int .i64 q0) ∧ wA1.cell? ⟨ga1, 0, none⟩ = some (.int .i64 p1) ∧ wA1.cell? ⟨ga1, 1, none⟩ = some (.int .i64 q1) ∧ Below w1.heap.size w1 wA1 := KC.out _ _ hbA1 (by assumption); (first | have hgA1 := hgA0.kept hbA1 | have hgA1 := (Box.new wA0 23 #[.int .i64 0, .int .i64 0]).kept hbA1 | skip); have hs1 : w1.heap.size ≤ wA1.heap.size := (by have q := hbA1.size; (try simp at q); omega))
        | (go_at_call 13; (with_reducible refine (toFraction_any p0 q0 _).mono ?_); rintro e wA0 ⟨rfl, hbA0⟩; have hSwA0 : wA0.cell? ⟨ga0, 0, none⟩ = some (.int .i64 p0) ∧ wA0.cell? ⟨ga0, 1, none⟩ = some (.int .i64 q0) ∧ wA0.cell? ⟨ga1, 0, none⟩ = some (.int .i64 p1) ∧ wA0.cell? ⟨ga1, 1, none⟩ = some (.int .i64 q1) ∧ Below w1.heap.size w1 wA0 := KC.out _ _ hbA0 (by assumption); (first | have hgA0 := (Box.new w1 23 #[.int .i64 0, .int .i64 0]).kept (w' := wA0) ⟨hbA0.os, hbA0.tape, hbA0.output, hbA0.size, hbA0.block⟩ | skip); have hs0 : w1.heap.size ≤ wA0.heap.size := (by have q := hbA0.size; (try simp at q); omega)))
    all_goals (go_wp2_with fail; go_meet)
    all_goals (first
      | refine ⟨_, rfl, rfl, Box.new _ _ _, KB.out _ ?_⟩
      | refine ⟨_, rfl, rfl, (hgC.set 0 _).set 1 _, KB.out _ ?_⟩)
    all_goals (first | assumption | (have q0 := hbA0.size; (try simp at q0); have q1 := hbA1.size; (try simp at q1); have q := hbC.size; (try simp at q); (first | omega | (simp; done) | (simp; omega))))
  obtain ⟨gw, rfl, rfl, hxw, hb⟩ := hcut
  clear KA KS KC KB KL KM0 KM00
  replace h := Below.step h hb
  replace hxa0 := hxa0.kept hb
  replace hxa1 := hxa1.kept hb
  clear hb kaa0 kba0 kla0 kaa1 kba1 kla1
  obtain ⟨kaa0, kba0⟩ := hxa0.two
  have kla0 := hxa0.lt
  obtain ⟨kaa1, kba1⟩ := hxa1.two
  have kla1 := hxa1.lt
  obtain ⟨kaw, kbw⟩ := hxw.two
  have klw := hxw.lt
  go_upto_region 2 with fail
  have KM : ∀ (W : World), Below wc.heap.size wc W → (W.cell? ⟨ga0, 0, none⟩ = some (.int .i64 p0) ∧ W.cell? ⟨ga0, 1, none⟩ = some (.int .i64 q0) ∧ W.cell? ⟨ga1, 0, none⟩ = some (.int .i64 p1) ∧ W.cell? ⟨ga1, 1, none⟩ = some (.int .i64 q1) ∧ Below wc.heap.size wc W) := fun W hW => ⟨(hxa0.kept hW).two.1, (hxa0.kept hW).two.2, (hxa1.kept hW).two.1, (hxa1.kept hW).two.2, hW⟩
  have KA : ∀ (W : World) (o : Obj), (W.cell? ⟨ga0, 0, none⟩ = some (.int .i64 p0) ∧ W.cell? ⟨ga0, 1, none⟩ = some (.int .i64 q0) ∧ W.cell? ⟨ga1, 0, none⟩ = some (.int .i64 p1) ∧ W.cell? ⟨ga1, 1, none⟩ = some (.int .i64 q1) ∧ Below wc.heap.size wc W) → ((W.alloc o).cell? ⟨ga0, 0, none⟩ = some (.int .i64 p0) ∧ (W.alloc o).cell? ⟨ga0, 1, none⟩ = some (.int .i64 q0) ∧ (W.alloc o).cell? ⟨ga1, 0, none⟩ = some (.int .i64 p1) ∧ (W.alloc o).cell? ⟨ga1, 1, none⟩ = some (.int .i64 q1) ∧ Below wc.heap.size wc (W.alloc o)) := fun W o ⟨_, _, _, _, hW⟩ => KM _ (Below.step hW (below_alloc1 _ _))
  have KS : ∀ (W : World) (g i j : Nat) (u v : Value), wc.heap.size ≤ g → (W.cell? ⟨ga0, 0, none⟩ = some (.int .i64 p0) ∧ W.cell? ⟨ga0, 1, none⟩ = some (.int .i64 q0) ∧ W.cell? ⟨ga1, 0, none⟩ = some (.int .i64 p1) ∧ W.cell? ⟨ga1, 1, none⟩ = some (.int .i64 q1) ∧ Below wc.heap.size wc W) → (((W.setCell ⟨g, i, none⟩ u).setCell ⟨g, j, none⟩ v).cell? ⟨ga0, 0, none⟩ = some (.int .i64 p0) ∧ ((W.setCell ⟨g, i, none⟩ u).setCell ⟨g, j, none⟩ v).cell? ⟨ga0, 1, none⟩ = some (.int .i64 q0) ∧ ((W.setCell ⟨g, i, none⟩ u).setCell ⟨g, j, none⟩ v).cell? ⟨ga1, 0, none⟩ = some (.int .i64 p1) ∧ ((W.setCell ⟨g, i, none⟩ u).setCell ⟨g, j, none⟩ v).cell? ⟨ga1, 1, none⟩ = some (.int .i64 q1) ∧ Below wc.heap.size wc ((W.setCell ⟨g, i, none⟩ u).setCell ⟨g, j, none⟩ v)) := fun W g i j u v hg ⟨_, _, _, _, hW⟩ => KM _ ((hW.setCell hg _).setCell hg _)
  have KC : ∀ (W W' : World), Below W.heap.size W W' → (W.cell? ⟨ga0, 0, none⟩ = some (.int .i64 p0) ∧ W.cell? ⟨ga0, 1, none⟩ = some (.int .i64 q0) ∧ W.cell? ⟨ga1, 0, none⟩ = some (.int .i64 p1) ∧ W.cell? ⟨ga1, 1, none⟩ = some (.int .i64 q1) ∧ Below wc.heap.size wc W) → (W'.cell? ⟨ga0, 0, none⟩ = some (.int .i64 p0) ∧ W'.cell? ⟨ga0, 1, none⟩ = some (.int .i64 q0) ∧ W'.cell? ⟨ga1, 0, none⟩ = some (.int .i64 p1) ∧ W'.cell? ⟨ga1, 1, none⟩ = some (.int .i64 q1) ∧ Below wc.heap.size wc W') := fun W W' hb ⟨_, _, _, _, hW⟩ => KM _ (Below.step hW hb)
  have KL : ∀ (W : World), (W.cell? ⟨ga0, 0, none⟩ = some (.int .i64 p0) ∧ W.cell? ⟨ga0, 1, none⟩ = some (.int .i64 q0) ∧ W.cell? ⟨ga1, 0, none⟩ = some (.int .i64 p1) ∧ W.cell? ⟨ga1, 1, none⟩ = some (.int .i64 q1) ∧ Below wc.heap.size wc W) → Lim W := fun W ⟨_, _, _, _, hW⟩ => hL.kept (Below.step h hW)
  have KB : ∀ (W : World), (W.cell? ⟨ga0, 0, none⟩ = some (.int .i64 p0) ∧ W.cell? ⟨ga0, 1, none⟩ = some (.int .i64 q0) ∧ W.cell? ⟨ga1, 0, none⟩ = some (.int .i64 p1) ∧ W.cell? ⟨ga1, 1, none⟩ = some (.int .i64 q1) ∧ Below wc.heap.size wc W) → Below wc.heap.size wc W := fun W ⟨_, _, _, _, hW⟩ => hW
  have KM0 := KM wc.drew ⟨rfl, rfl, rfl, Nat.le_refl _, fun _ _ => rfl⟩
  have KM00 := KM _ (Below.refl _ _)
  replace KA := Lib.hid KA
  replace KS := Lib.hid KS
  replace KC := Lib.hid KC
  replace KB := Lib.hid KB
  replace KL := Lib.hid KL
  clear KM
  go_cut [7, 8] (fun s7 s8 wx => ∃ (g : Nat), s7 = .pointer (some ⟨g, 0, none⟩) ∧ s8 = .bool b0 ∧ Box wx g 23 #[.int .i64 rp, .int .i64 rq] ∧ Below wc.heap.size wc wx)
  case first =>
    go_region_held3 (fun w' => w'.cell? ⟨ga0, 0, none⟩ = some (.int .i64 p0) ∧ w'.cell? ⟨ga0, 1, none⟩ = some (.int .i64 q0) ∧ w'.cell? ⟨ga1, 0, none⟩ = some (.int .i64 p1) ∧ w'.cell? ⟨ga1, 1, none⟩ = some (.int .i64 q1) ∧ Below wc.heap.size wc w') ((first | assumption | (refine KA.out _ _ ?_; assumption) | (apply KC.out; assumption; assumption) | (refine KA.out (World.drew _) _ ?_; assumption) | (refine KS.out _ _ _ _ _ _ ?_ ?_; (first | exact Nat.le_refl _ | exact hs0 | exact hs1 | fail); assumption)))
      (first
        | (go_at_call 16; (with_reducible refine (hI.out _ ?_).mono ?_); (refine KL.out _ ?_; assumption); rintro e wC ⟨rfl, hbC⟩; have hSC : wC.cell? ⟨ga0, 0, none⟩ = some (.int .i64 p0) ∧ wC.cell? ⟨ga0, 1, none⟩ = some (.int .i64 q0) ∧ wC.cell? ⟨ga1, 0, none⟩ = some (.int .i64 p1) ∧ wC.cell? ⟨ga1, 1, none⟩ = some (.int .i64 q1) ∧ Below wc.heap.size wc wC := KC.out _ _ hbC (by assumption); (first | have hgC := hgA1.kept hbC | have hgC := (Box.new wA1 23 #[.int .i64 0, .int .i64 0]).kept hbC | skip); (first | (obtain ⟨u0, u1⟩ := hgC.two; have u2 := hgC.free 0; have u3 := hgC.free 1) | skip))
        | (go_at_call 13; (with_reducible refine (toFraction_any p1 q1 _).mono ?_); rintro e wA1 ⟨rfl, hbA1⟩; have hSwA1 : wA1.cell? ⟨ga0, 0, none⟩ = some (.int .i64 p0) ∧ wA1.cell? ⟨ga0, 1, none⟩ = some (.int .i64 q0) ∧ wA1.cell? ⟨ga1, 0, none⟩ = some (.int .i64 p1) ∧ wA1.cell? ⟨ga1, 1, none⟩ = some (.int .i64 q1) ∧ Below wc.heap.size wc wA1 := KC.out _ _ hbA1 (by assumption); (first | have hgA1 := hgA0.kept hbA1 | have hgA1 := (Box.new wA0 23 #[.int .i64 0, .int .i64 0]).kept hbA1 | skip); have hs1 : wc.heap.size ≤ wA1.heap.size := (by have q := hbA1.size; (try simp at q); omega))
        | (go_at_call 13; (with_reducible refine (toFraction_any p0 q0 _).mono ?_); rintro e wA0 ⟨rfl, hbA0⟩; have hSwA0 : wA0.cell? ⟨ga0, 0, none⟩ = some (.int .i64 p0) ∧ wA0.cell? ⟨ga0, 1, none⟩ = some (.int .i64 q0) ∧ wA0.cell? ⟨ga1, 0, none⟩ = some (.int .i64 p1) ∧ wA0.cell? ⟨ga1, 1, none⟩ = some (.int .i64 q1) ∧ Below wc.heap.size wc wA0 := KC.out _ _ hbA0 (by assumption); (first | have hgA0 := (Box.new wc 23 #[.int .i64 0, .int .i64 0]).kept (w' := wA0) ⟨hbA0.os, hbA0.tape, hbA0.output, hbA0.size, hbA0.block⟩ | skip); have hs0 : wc.heap.size ≤ wA0.heap.size := (by have q := hbA0.size; (try simp at q); omega)))
    all_goals (go_wp2_with fail; go_meet)
    all_goals (first
      | refine ⟨_, rfl, rfl, Box.new _ _ _, KB.out _ ?_⟩
      | refine ⟨_, rfl, rfl, (hgC.set 0 _).set 1 _, KB.out _ ?_⟩)
    all_goals (first | assumption | (have q0 := hbA0.size; (try simp at q0); have q1 := hbA1.size; (try simp at q1); have q := hbC.size; (try simp at q); (first | omega | (simp; done) | (simp; omega))))
  obtain ⟨gg, rfl, rfl, hxg, hb⟩ := hcut
  clear KA KS KC KB KL KM0 KM00
  replace h := Below.step h hb
  replace hxa0 := hxa0.kept hb
  replace hxa1 := hxa1.kept hb
  replace hxw := hxw.kept hb
  clear hb kaa0 kba0 kla0 kaa1 kba1 kla1 kaw kbw klw
  obtain ⟨kaa0, kba0⟩ := hxa0.two
  have kla0 := hxa0.lt
  obtain ⟨kaa1, kba1⟩ := hxa1.two
  have kla1 := hxa1.lt
  obtain ⟨kaw, kbw⟩ := hxw.two
  have klw := hxw.lt
  obtain ⟨kag, kbg⟩ := hxg.two
  have klg := hxg.lt
  go_wp2_with fail
  refine (eqFraction_yes rp rq _).mono ?_
  rintro e w2 ⟨rfl, hb⟩
  replace h := Below.step h hb
  replace hxa0 := hxa0.kept hb
  replace hxa1 := hxa1.kept hb
  replace hxw := hxw.kept hb
  replace hxg := hxg.kept hb
  clear hb kaa0 kba0 kla0 kaa1 kba1 kla1 kaw kbw klw kag kbg klg
  go_wp2
  go_ret
  exact ⟨rfl, h⟩
end Go.Proofs.YtjkbpcigpfahjaaDoor
