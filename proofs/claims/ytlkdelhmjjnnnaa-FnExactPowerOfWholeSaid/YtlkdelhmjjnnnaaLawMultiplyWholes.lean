/- The core of the law of MultiplyWholes (written by wip/gen/lawgen.py): it answers true if the model and the program hand back the same. -/
import Derived.Test.YtlkdelhmjjnnnaaWhole
import Derived.Deep.RegionHeld3
import Derived.Deep.DeepCutAuto
namespace Go.Proofs.Ytlkdelhmjjnnnaa
open Go.RowKit Go.Joins

set_option maxHeartbeats 4000000 in
set_option maxRecDepth 100000 in
theorem lawMultiplyWholes_core (neg0 : Bool) (A0 : Option Addr) (n0 c0 : Nat) (xs0 : List Int) (neg1 : Bool) (A1 : Option Addr) (n1 c1 : Nat) (xs1 : List Int) (w : World) (hm0 : n0 ≤ 9223372036854775807) (hr0 : Rd w w.heap.size A0 n0 xs0) (hm1 : n1 ≤ 9223372036854775807) (hr1 : Rd w w.heap.size A1 n1 xs1) (rn : Bool) (rs : List Int) (hrs : rs.length ≤ 1048576) (ok : Bool)
    (hS : xs0.length ≤ 1048576 → xs1.length ≤ 1048576 → ∀ (A0 : Option Addr) (c0 : Nat) (A1 : Option Addr) (c1 : Nat) (w : World), Rd w w.heap.size A0 xs0.length xs0 → xs0.length ≤ c0 → Rd w w.heap.size A1 xs1.length xs1 → xs1.length ≤ c1 → Calls Try.prog 27 #[.agg #[.bool neg0, .slice A0 xs0.length c0], .agg #[.bool neg1, .slice A1 xs1.length c1]] w (GivesWholeOk w rn rs ok))
    (hI : xs0.length ≤ 1048576 → xs1.length ≤ 1048576 → ∀ (A0 : Option Addr) (c0 : Nat) (A1 : Option Addr) (c1 : Nat) (w : World), Rd w w.heap.size A0 xs0.length xs0 → xs0.length ≤ c0 → Rd w w.heap.size A1 xs1.length xs1 → xs1.length ≤ c1 → Calls Try.prog 28 #[.agg #[.bool neg0, .slice A0 xs0.length c0], .agg #[.bool neg1, .slice A1 xs1.length c1]] w (GivesWholeOk w rn rs ok)) :
    Calls Try.prog 7 #[.agg #[.bool neg0, .slice A0 n0 c0], .agg #[.bool neg1, .slice A1 n1 c1]] w fun e w' => e = .returned (.bool true) ∧ Below w.heap.size w w' := by
  have h := Below.refl w.heap.size w
  have hA := below_alloc1 w (.cells #[.bool neg0, .slice A0 n0 c0] 24)
  replace h := Below.step h hA
  have hxa0 := Box.new w 24 #[.bool neg0, .slice A0 n0 c0]
  clear hA
  have hA := below_alloc1 (w.alloc (.cells #[.bool neg0, .slice A0 n0 c0] 24)) (.cells #[.bool neg1, .slice A1 n1 c1] 24)
  replace h := Below.step h hA
  replace hxa0 := hxa0.kept hA
  have hxa1 := Box.new (w.alloc (.cells #[.bool neg0, .slice A0 n0 c0] 24)) 24 #[.bool neg1, .slice A1 n1 c1]
  rw [show (w.alloc (.cells #[.bool neg0, .slice A0 n0 c0] 24)).heap.size = w.heap.size + 1 from by simp] at hxa1
  clear hA
  by_cases hbig0 : 1048576 < (n0 : Int)
  · clear hS hI
    go_enter Try.func7, Try.ntmps7
    go_wp2_with fail
    have hz := szWhole_any neg0 A0 n0 c0 (1048576) ((w.alloc (.cells #[.bool neg0, .slice A0 n0 c0] 24)).alloc (.cells #[.bool neg1, .slice A1 n1 c1] 24)) hm0 (by omega) (by omega)
    rw [if_pos (by omega)] at hz
    replace hz := Lib.hid hz
    refine (hz.out).mono ?_
    rintro e w1 ⟨rfl, hb⟩
    replace h := Below.step h hb
    replace hxa0 := hxa0.kept hb
    replace hxa1 := hxa1.kept hb
    clear hb
    clear hz
    go_wp2
    go_ret
    exact ⟨rfl, h⟩
  have hlen0 : xs0.length ≤ 1048576 := by rw [hr0.1]; omega
  by_cases hbig1 : 1048576 - (n0 : Int) < (n1 : Int)
  · clear hS hI
    go_enter Try.func7, Try.ntmps7
    go_wp2_with fail
    have hz := szWhole_any neg0 A0 n0 c0 (1048576) ((w.alloc (.cells #[.bool neg0, .slice A0 n0 c0] 24)).alloc (.cells #[.bool neg1, .slice A1 n1 c1] 24)) hm0 (by omega) (by omega)
    rw [if_neg (by omega)] at hz
    replace hz := Lib.hid hz
    refine (hz.out).mono ?_
    rintro e w1 ⟨rfl, hb⟩
    replace h := Below.step h hb
    replace hxa0 := hxa0.kept hb
    replace hxa1 := hxa1.kept hb
    clear hb
    clear hz
    obtain ⟨kaa0, kba0⟩ := hxa0.two
    have kla0 := hxa0.lt
    obtain ⟨kaa1, kba1⟩ := hxa1.two
    have kla1 := hxa1.lt
    go_wp2_with fail
    have hz := szWhole_any neg1 A1 n1 c1 (1048576 - n0) w1 hm1 (by omega) (by omega)
    rw [if_pos (by omega)] at hz
    replace hz := Lib.hid hz
    refine (hz.out).mono ?_
    rintro e w2 ⟨rfl, hb⟩
    replace h := Below.step h hb
    replace hxa0 := hxa0.kept hb
    replace hxa1 := hxa1.kept hb
    clear hb kaa0 kba0 kla0 kaa1 kba1 kla1
    clear hz
    go_wp2
    go_ret
    exact ⟨rfl, h⟩
  have hlen1 : xs1.length ≤ 1048576 := by rw [hr1.1]; omega
  replace hS := Lib.hid (hS hlen0 hlen1)
  replace hI := Lib.hid (hI hlen0 hlen1)
  have e0 : (ok != ok) = false := by simp
  have e2 : (1 + (rs.length : Int) != 1 + rs.length) = false := by simp
  go_enter Try.func7, Try.ntmps7
  go_wp2_with fail
  have hz := szWhole_any neg0 A0 n0 c0 (1048576) ((w.alloc (.cells #[.bool neg0, .slice A0 n0 c0] 24)).alloc (.cells #[.bool neg1, .slice A1 n1 c1] 24)) hm0 (by omega) (by omega)
  rw [if_neg (by omega)] at hz
  replace hz := Lib.hid hz
  refine (hz.out).mono ?_
  rintro e w1 ⟨rfl, hb⟩
  replace h := Below.step h hb
  replace hxa0 := hxa0.kept hb
  replace hxa1 := hxa1.kept hb
  clear hb
  clear hz
  obtain ⟨kaa0, kba0⟩ := hxa0.two
  have kla0 := hxa0.lt
  obtain ⟨kaa1, kba1⟩ := hxa1.two
  have kla1 := hxa1.lt
  go_wp2_with fail
  have hz := szWhole_any neg1 A1 n1 c1 (1048576 - n0) w1 hm1 (by omega) (by omega)
  rw [if_neg (by omega)] at hz
  replace hz := Lib.hid hz
  refine (hz.out).mono ?_
  rintro e w2 ⟨rfl, hb⟩
  replace h := Below.step h hb
  replace hxa0 := hxa0.kept hb
  replace hxa1 := hxa1.kept hb
  clear hb kaa0 kba0 kla0 kaa1 kba1 kla1
  clear hz
  obtain ⟨kaa0, kba0⟩ := hxa0.two
  have kla0 := hxa0.lt
  obtain ⟨kaa1, kba1⟩ := hxa1.two
  have kla1 := hxa1.lt
  obtain ⟨ga0, hga0⟩ : ∃ g, g = w.heap.size := ⟨_, rfl⟩
  obtain ⟨ga1, hga1⟩ : ∃ g, g = w.heap.size + 1 := ⟨_, rfl⟩
  rw [← hga1] at hxa1 kaa1 kba1 kla1 ⊢
  rw [← hga0] at hxa0 kaa0 kba0 kla0 ⊢
  clear hga0 hga1
  go_upto_region 8 with fail
  have KM : ∀ (W : World), Below w2.heap.size w2 W → (W.cell? ⟨ga0, 0, none⟩ = some (.bool neg0) ∧ W.cell? ⟨ga0, 1, none⟩ = some (.slice A0 n0 c0) ∧ W.cell? ⟨ga1, 0, none⟩ = some (.bool neg1) ∧ W.cell? ⟨ga1, 1, none⟩ = some (.slice A1 n1 c1) ∧ Below w2.heap.size w2 W) := fun W hW => ⟨(hxa0.kept hW).two.1, (hxa0.kept hW).two.2, (hxa1.kept hW).two.1, (hxa1.kept hW).two.2, hW⟩
  have KA : ∀ (W : World) (o : Obj), (W.cell? ⟨ga0, 0, none⟩ = some (.bool neg0) ∧ W.cell? ⟨ga0, 1, none⟩ = some (.slice A0 n0 c0) ∧ W.cell? ⟨ga1, 0, none⟩ = some (.bool neg1) ∧ W.cell? ⟨ga1, 1, none⟩ = some (.slice A1 n1 c1) ∧ Below w2.heap.size w2 W) → ((W.alloc o).cell? ⟨ga0, 0, none⟩ = some (.bool neg0) ∧ (W.alloc o).cell? ⟨ga0, 1, none⟩ = some (.slice A0 n0 c0) ∧ (W.alloc o).cell? ⟨ga1, 0, none⟩ = some (.bool neg1) ∧ (W.alloc o).cell? ⟨ga1, 1, none⟩ = some (.slice A1 n1 c1) ∧ Below w2.heap.size w2 (W.alloc o)) := fun W o ⟨_, _, _, _, hW⟩ => KM _ (Below.step hW (below_alloc1 _ _))
  have KS : ∀ (W : World) (g i j : Nat) (u v : Value), w2.heap.size ≤ g → (W.cell? ⟨ga0, 0, none⟩ = some (.bool neg0) ∧ W.cell? ⟨ga0, 1, none⟩ = some (.slice A0 n0 c0) ∧ W.cell? ⟨ga1, 0, none⟩ = some (.bool neg1) ∧ W.cell? ⟨ga1, 1, none⟩ = some (.slice A1 n1 c1) ∧ Below w2.heap.size w2 W) → (((W.setCell ⟨g, i, none⟩ u).setCell ⟨g, j, none⟩ v).cell? ⟨ga0, 0, none⟩ = some (.bool neg0) ∧ ((W.setCell ⟨g, i, none⟩ u).setCell ⟨g, j, none⟩ v).cell? ⟨ga0, 1, none⟩ = some (.slice A0 n0 c0) ∧ ((W.setCell ⟨g, i, none⟩ u).setCell ⟨g, j, none⟩ v).cell? ⟨ga1, 0, none⟩ = some (.bool neg1) ∧ ((W.setCell ⟨g, i, none⟩ u).setCell ⟨g, j, none⟩ v).cell? ⟨ga1, 1, none⟩ = some (.slice A1 n1 c1) ∧ Below w2.heap.size w2 ((W.setCell ⟨g, i, none⟩ u).setCell ⟨g, j, none⟩ v)) := fun W g i j u v hg ⟨_, _, _, _, hW⟩ => KM _ ((hW.setCell hg _).setCell hg _)
  have KC : ∀ (W W' : World), Below W.heap.size W W' → (W.cell? ⟨ga0, 0, none⟩ = some (.bool neg0) ∧ W.cell? ⟨ga0, 1, none⟩ = some (.slice A0 n0 c0) ∧ W.cell? ⟨ga1, 0, none⟩ = some (.bool neg1) ∧ W.cell? ⟨ga1, 1, none⟩ = some (.slice A1 n1 c1) ∧ Below w2.heap.size w2 W) → (W'.cell? ⟨ga0, 0, none⟩ = some (.bool neg0) ∧ W'.cell? ⟨ga0, 1, none⟩ = some (.slice A0 n0 c0) ∧ W'.cell? ⟨ga1, 0, none⟩ = some (.bool neg1) ∧ W'.cell? ⟨ga1, 1, none⟩ = some (.slice A1 n1 c1) ∧ Below w2.heap.size w2 W') := fun W W' hb ⟨_, _, _, _, hW⟩ => KM _ (Below.step hW hb)
  have KR0 : ∀ (W : World), (W.cell? ⟨ga0, 0, none⟩ = some (.bool neg0) ∧ W.cell? ⟨ga0, 1, none⟩ = some (.slice A0 n0 c0) ∧ W.cell? ⟨ga1, 0, none⟩ = some (.bool neg1) ∧ W.cell? ⟨ga1, 1, none⟩ = some (.slice A1 n1 c1) ∧ Below w2.heap.size w2 W) → Rd W W.heap.size A0 n0 xs0 := fun W ⟨_, _, _, _, hW⟩ => hr0.kept (Below.step h hW)
  have KR1 : ∀ (W : World), (W.cell? ⟨ga0, 0, none⟩ = some (.bool neg0) ∧ W.cell? ⟨ga0, 1, none⟩ = some (.slice A0 n0 c0) ∧ W.cell? ⟨ga1, 0, none⟩ = some (.bool neg1) ∧ W.cell? ⟨ga1, 1, none⟩ = some (.slice A1 n1 c1) ∧ Below w2.heap.size w2 W) → Rd W W.heap.size A1 n1 xs1 := fun W ⟨_, _, _, _, hW⟩ => hr1.kept (Below.step h hW)
  have KB : ∀ (W : World), (W.cell? ⟨ga0, 0, none⟩ = some (.bool neg0) ∧ W.cell? ⟨ga0, 1, none⟩ = some (.slice A0 n0 c0) ∧ W.cell? ⟨ga1, 0, none⟩ = some (.bool neg1) ∧ W.cell? ⟨ga1, 1, none⟩ = some (.slice A1 n1 c1) ∧ Below w2.heap.size w2 W) → Below w2.heap.size w2 W := fun W ⟨_, _, _, _, hW⟩ => hW
  have KM0 := KM w2.drew ⟨rfl, rfl, rfl, Nat.le_refl _, fun _ _ => rfl⟩
  have KM00 := KM _ (Below.refl _ _)
  replace KA := Lib.hid KA
  replace KS := Lib.hid KS
  replace KC := Lib.hid KC
  replace KB := Lib.hid KB
  replace KR0 := Lib.hid KR0
  replace KR1 := Lib.hid KR1
  clear KM
  go_cut [6, 7] (fun s6 s7 wx => ∃ (g : Nat) (Aw : Option Addr) (cw lo : Nat), s6 = .pointer (some ⟨g, 0, none⟩) ∧ s7 = .bool ok ∧ Box wx g 27 #[.bool rn, .slice Aw rs.length cw] ∧ w2.heap.size ≤ lo ∧ Own wx lo (.slice Aw rs.length cw) rs ∧ Below w2.heap.size w2 wx)
  case first =>
    go_region_held3 (fun w' => w'.cell? ⟨ga0, 0, none⟩ = some (.bool neg0) ∧ w'.cell? ⟨ga0, 1, none⟩ = some (.slice A0 n0 c0) ∧ w'.cell? ⟨ga1, 0, none⟩ = some (.bool neg1) ∧ w'.cell? ⟨ga1, 1, none⟩ = some (.slice A1 n1 c1) ∧ Below w2.heap.size w2 w') ((first | assumption | (refine KA.out _ _ ?_; assumption) | (apply KC.out; assumption; assumption) | (refine KA.out (World.drew _) _ ?_; assumption) | (refine KS.out _ _ _ _ _ _ ?_ ?_; (first | exact Nat.le_refl _ | exact hs0 | exact hs1 | fail); assumption)))
      (first
        | (go_at_call 27; (with_reducible refine (hS.out _ _ _ _ _ ?_ ?_ ?_ ?_).mono ?_); (first | exact hoa0.rd | exact (hoa0.alloc _).rd | fail); (exact hoa0.cap); (first | exact hoa1.rd | exact (hoa1.alloc _).rd | fail); (exact hoa1.cap); rintro e wC ⟨Aw, cw, rfl, how, hbC⟩; have hSC : wC.cell? ⟨ga0, 0, none⟩ = some (.bool neg0) ∧ wC.cell? ⟨ga0, 1, none⟩ = some (.slice A0 n0 c0) ∧ wC.cell? ⟨ga1, 0, none⟩ = some (.bool neg1) ∧ wC.cell? ⟨ga1, 1, none⟩ = some (.slice A1 n1 c1) ∧ Below w2.heap.size w2 wC := KC.out _ _ hbC (by assumption); (first | have hgC := hgA1.kept hbC | have hgC := (Box.new wA1 27 #[.bool false, .slice none 0 0]).kept hbC | skip); (first | (obtain ⟨u0, u1⟩ := hgC.two; have u2 := hgC.free 0; have u3 := hgC.free 1) | skip))
        | (go_at_call 16; (with_reducible refine (toWhole_any neg1 A1 n1 c1 xs1 _ (by omega) ?_).mono ?_); (refine KR1.out _ ?_; assumption); rintro e wA1 ⟨B1, b1, rfl, hoa1, hbA1⟩; have hSwA1 : wA1.cell? ⟨ga0, 0, none⟩ = some (.bool neg0) ∧ wA1.cell? ⟨ga0, 1, none⟩ = some (.slice A0 n0 c0) ∧ wA1.cell? ⟨ga1, 0, none⟩ = some (.bool neg1) ∧ wA1.cell? ⟨ga1, 1, none⟩ = some (.slice A1 n1 c1) ∧ Below w2.heap.size w2 wA1 := KC.out _ _ hbA1 (by assumption); (first | have hgA1 := hgA0.kept hbA1 | have hgA1 := (Box.new wA0 27 #[.bool false, .slice none 0 0]).kept hbA1 | skip); obtain ⟨lo0_1, hoa0⟩ : ∃ lo, Own wA1 lo (.slice B0 xs0.length b0) xs0 := (by first | exact ⟨_, hoa0.kept hbA1⟩ | exact ⟨_, (hoa0.alloc _).kept hbA1⟩); have hs1 : w2.heap.size ≤ wA1.heap.size := (by have q := hbA1.size; (try simp at q); omega))
        | (go_at_call 16; (with_reducible refine (toWhole_any neg0 A0 n0 c0 xs0 _ (by omega) ?_).mono ?_); (refine KR0.out _ ?_; assumption); rintro e wA0 ⟨B0, b0, rfl, hoa0, hbA0⟩; have hSwA0 : wA0.cell? ⟨ga0, 0, none⟩ = some (.bool neg0) ∧ wA0.cell? ⟨ga0, 1, none⟩ = some (.slice A0 n0 c0) ∧ wA0.cell? ⟨ga1, 0, none⟩ = some (.bool neg1) ∧ wA0.cell? ⟨ga1, 1, none⟩ = some (.slice A1 n1 c1) ∧ Below w2.heap.size w2 wA0 := KC.out _ _ hbA0 (by assumption); (first | have hgA0 := (Box.new w2 27 #[.bool false, .slice none 0 0]).kept (w' := wA0) ⟨hbA0.os, hbA0.tape, hbA0.output, hbA0.size, hbA0.block⟩ | skip); have hs0 : w2.heap.size ≤ wA0.heap.size := (by have q := hbA0.size; (try simp at q); omega)))
    all_goals (go_wp2_with fail; go_meet)
    all_goals (first
      | refine ⟨_, Aw, cw, _, rfl, rfl, Box.new _ _ _, ?_, how.alloc _, KB.out _ ?_⟩
      | refine ⟨_, Aw, cw, _, rfl, rfl, (hgC.set 0 _).set 1 _, ?_, (how.set_below ?_ _).set_below ?_ _, KB.out _ ?_⟩)
    all_goals (first | assumption | (have q0 := hbA0.size; (try simp at q0); have q1 := hbA1.size; (try simp at q1); have q := hbC.size; (try simp at q); (first | omega | (simp; done) | (simp; omega))))
  obtain ⟨gw, Aw, cw, low, rfl, rfl, hxw, lo_how, how, hb⟩ := hcut
  replace lo_how := Nat.le_trans h.size lo_how
  replace how := how.I
  clear KA KS KC KB KR0 KR1 KM0 KM00
  replace h := Below.step h hb
  replace hxa0 := hxa0.kept hb
  replace hxa1 := hxa1.kept hb
  clear hb kaa0 kba0 kla0 kaa1 kba1 kla1
  obtain ⟨kaa0, kba0⟩ := hxa0.two
  have kla0 := hxa0.lt
  obtain ⟨kaa1, kba1⟩ := hxa1.two
  have kla1 := hxa1.lt
  obtain ⟨kaw, kbw⟩ := hxw.two
  have klw := hxw.lt
  go_wp2_with fail
  have d_how_hox0 := how.le
  have lo_hox0 := h.size
  refine (toWhole_any neg0 A0 n0 c0 xs0 _ (by omega) (hr0.kept h)).mono ?_
  rintro e w4 ⟨Ax0, cx0, rfl, hox0, hb⟩
  replace hox0 := hox0.I
  replace h := Below.step h hb
  replace hxa0 := hxa0.kept hb
  replace hxa1 := hxa1.kept hb
  replace hxw := hxw.kept hb
  replace how := how.kept hb
  clear hb kaa0 kba0 kla0 kaa1 kba1 kla1 kaw kbw klw
  obtain ⟨kaa0, kba0⟩ := hxa0.two
  have kla0 := hxa0.lt
  obtain ⟨kaa1, kba1⟩ := hxa1.two
  have kla1 := hxa1.lt
  obtain ⟨kaw, kbw⟩ := hxw.two
  have klw := hxw.lt
  go_wp2_with fail
  have hA := below_alloc1 w4 (.cells #[.bool neg0, .slice Ax0 xs0.length cx0] 27)
  have hxx0 := Box.new w4 27 #[.bool neg0, .slice Ax0 xs0.length cx0]
  replace h := Below.step h hA
  replace hxa0 := hxa0.kept hA
  replace hxa1 := hxa1.kept hA
  replace hxw := hxw.kept hA
  replace how := how.kept hA
  replace hox0 := hox0.kept hA
  clear hA kaa0 kba0 kla0 kaa1 kba1 kla1 kaw kbw klw
  generalize w4.alloc (.cells #[.bool neg0, .slice Ax0 xs0.length cx0] 27) = w5 at *
  generalize w4.heap.size = gx0 at hxx0 ⊢
  have d_how_hox1 := how.le
  have d_hox0_hox1 := hox0.le
  have lo_hox1 := h.size
  refine (toWhole_any neg1 A1 n1 c1 xs1 _ (by omega) (hr1.kept h)).mono ?_
  rintro e w6 ⟨Ax1, cx1, rfl, hox1, hb⟩
  replace hox1 := hox1.I
  replace h := Below.step h hb
  replace hxa0 := hxa0.kept hb
  replace hxa1 := hxa1.kept hb
  replace hxw := hxw.kept hb
  replace hxx0 := hxx0.kept hb
  replace how := how.kept hb
  replace hox0 := hox0.kept hb
  clear hb
  obtain ⟨kaa0, kba0⟩ := hxa0.two
  have kla0 := hxa0.lt
  obtain ⟨kaa1, kba1⟩ := hxa1.two
  have kla1 := hxa1.lt
  obtain ⟨kaw, kbw⟩ := hxw.two
  have klw := hxw.lt
  obtain ⟨kax0, kbx0⟩ := hxx0.two
  have klx0 := hxx0.lt
  go_wp2_with fail
  have hA := below_alloc1 w6 (.cells #[.bool neg1, .slice Ax1 xs1.length cx1] 27)
  have hxx1 := Box.new w6 27 #[.bool neg1, .slice Ax1 xs1.length cx1]
  replace h := Below.step h hA
  replace hxa0 := hxa0.kept hA
  replace hxa1 := hxa1.kept hA
  replace hxw := hxw.kept hA
  replace hxx0 := hxx0.kept hA
  replace how := how.kept hA
  replace hox0 := hox0.kept hA
  replace hox1 := hox1.kept hA
  clear hA kaa0 kba0 kla0 kaa1 kba1 kla1 kaw kbw klw kax0 kbx0 klx0
  generalize w6.alloc (.cells #[.bool neg1, .slice Ax1 xs1.length cx1] 27) = w7 at *
  generalize w6.heap.size = gx1 at hxx1 ⊢
  have d_how_hog := how.le
  have d_hox0_hog := hox0.le
  have d_hox1_hog := hox1.le
  have lo_hog := h.size
  refine (hI.out Ax0 cx0 Ax1 cx1 _ hox0.rd hox0.own.cap hox1.rd hox1.own.cap).mono ?_
  rintro e w8 ⟨Ag, cg, rfl, hog, hb⟩
  replace hog := hog.I
  replace h := Below.step h hb
  replace hxa0 := hxa0.kept hb
  replace hxa1 := hxa1.kept hb
  replace hxw := hxw.kept hb
  replace hxx0 := hxx0.kept hb
  replace hxx1 := hxx1.kept hb
  replace how := how.kept hb
  replace hox0 := hox0.kept hb
  replace hox1 := hox1.kept hb
  clear hb
  obtain ⟨kaa0, kba0⟩ := hxa0.two
  have kla0 := hxa0.lt
  obtain ⟨kaa1, kba1⟩ := hxa1.two
  have kla1 := hxa1.lt
  obtain ⟨kaw, kbw⟩ := hxw.two
  have klw := hxw.lt
  obtain ⟨kax0, kbx0⟩ := hxx0.two
  have klx0 := hxx0.lt
  obtain ⟨kax1, kbx1⟩ := hxx1.two
  have klx1 := hxx1.lt
  go_wp2_with fail
  have hA := below_alloc1 w8 (.cells #[.bool rn, .slice Ag rs.length cg] 27)
  have hxg := Box.new w8 27 #[.bool rn, .slice Ag rs.length cg]
  replace h := Below.step h hA
  replace hxa0 := hxa0.kept hA
  replace hxa1 := hxa1.kept hA
  replace hxw := hxw.kept hA
  replace hxx0 := hxx0.kept hA
  replace hxx1 := hxx1.kept hA
  replace how := how.kept hA
  replace hox0 := hox0.kept hA
  replace hox1 := hox1.kept hA
  replace hog := hog.kept hA
  clear hA kaa0 kba0 kla0 kaa1 kba1 kla1 kaw kbw klw kax0 kbx0 klx0 kax1 kbx1 klx1
  generalize w8.alloc (.cells #[.bool rn, .slice Ag rs.length cg] 27) = w9 at *
  generalize w8.heap.size = gg at hxg ⊢
  refine (eqWhole_yes rn Ag Aw _ cg _ cw rs _ (by omega) hog.rd how.rd).mono ?_
  rintro e w10 ⟨rfl, hb⟩
  replace h := Below.step h hb
  replace hxa0 := hxa0.kept hb
  replace hxa1 := hxa1.kept hb
  replace hxw := hxw.kept hb
  replace hxx0 := hxx0.kept hb
  replace hxx1 := hxx1.kept hb
  replace hxg := hxg.kept hb
  replace how := how.kept hb
  replace hox0 := hox0.kept hb
  replace hox1 := hox1.kept hb
  replace hog := hog.kept hb
  clear hb
  obtain ⟨kaa0, kba0⟩ := hxa0.two
  have kla0 := hxa0.lt
  obtain ⟨kaa1, kba1⟩ := hxa1.two
  have kla1 := hxa1.lt
  obtain ⟨kaw, kbw⟩ := hxw.two
  have klw := hxw.lt
  obtain ⟨kax0, kbx0⟩ := hxx0.two
  have klx0 := hxx0.lt
  obtain ⟨kax1, kbx1⟩ := hxx1.two
  have klx1 := hxx1.lt
  obtain ⟨kag, kbg⟩ := hxg.two
  have klg := hxg.lt
  go_wp2_with fail
  go_region_held3 (fun w' => w'.cell? ⟨gx0, 0, none⟩ = some (.bool neg0) ∧ w'.cell? ⟨gx0, 1, none⟩ = some (.slice Ax0 xs0.length cx0) ∧ w'.cell? ⟨ga0, 0, none⟩ = some (.bool neg0) ∧ w'.cell? ⟨ga0, 1, none⟩ = some (.slice A0 n0 c0)) ((refine ⟨?_, ?_, ?_, ?_⟩ <;> assumption))
    (first
      | (go_at_call 16; refine (toWhole_any neg0 A0 n0 c0 xs0 _ (by omega) (by have hrr := hr0.kept h; exact hrr)).mono ?_; rintro e w' ⟨A8, c8, rfl, ho8, hb⟩; have hq : Below w10.heap.size w10 w' := ⟨hb.os, hb.tape, hb.output, hb.size, hb.block⟩; obtain ⟨q1, q2⟩ := (hxx0.kept hq).two; obtain ⟨q3, q4⟩ := (hxa0.kept hq).two)
      | (go_at_call 18; refine (eqWhole_yes neg0 Ax0 _ _ cx0 _ _ xs0 _ (by omega) (by exact (hox0.kept hq).rd) (by exact ho8.rd)).mono ?_; rintro e w11 ⟨rfl, hb9⟩; have hb : Below w10.heap.size w10 w11 := Below.step hq ⟨hb9.os, hb9.tape, hb9.output, hb9.size, hb9.block⟩; obtain ⟨q5, q6⟩ := (hxx0.kept hb).two; obtain ⟨q7, q8⟩ := (hxa0.kept hb).two))
  replace h := Below.step h hb
  replace hxa0 := hxa0.kept hb
  replace hxa1 := hxa1.kept hb
  replace hxw := hxw.kept hb
  replace hxx0 := hxx0.kept hb
  replace hxx1 := hxx1.kept hb
  replace hxg := hxg.kept hb
  replace how := how.kept hb
  replace hox0 := hox0.kept hb
  replace hox1 := hox1.kept hb
  replace hog := hog.kept hb
  clear hb kaa0 kba0 kla0 kaa1 kba1 kla1 kaw kbw klw kax0 kbx0 klx0 kax1 kbx1 klx1 kag kbg klg
  clear hq hb9 q1 q2 q3 q4 q5 q6 q7 q8 ho8
  obtain ⟨kaa0, kba0⟩ := hxa0.two
  have kla0 := hxa0.lt
  obtain ⟨kaa1, kba1⟩ := hxa1.two
  have kla1 := hxa1.lt
  obtain ⟨kaw, kbw⟩ := hxw.two
  have klw := hxw.lt
  obtain ⟨kax0, kbx0⟩ := hxx0.two
  have klx0 := hxx0.lt
  obtain ⟨kax1, kbx1⟩ := hxx1.two
  have klx1 := hxx1.lt
  obtain ⟨kag, kbg⟩ := hxg.two
  have klg := hxg.lt
  go_wp2_with fail
  go_region_held3 (fun w' => w'.cell? ⟨gx1, 0, none⟩ = some (.bool neg1) ∧ w'.cell? ⟨gx1, 1, none⟩ = some (.slice Ax1 xs1.length cx1) ∧ w'.cell? ⟨ga1, 0, none⟩ = some (.bool neg1) ∧ w'.cell? ⟨ga1, 1, none⟩ = some (.slice A1 n1 c1)) ((refine ⟨?_, ?_, ?_, ?_⟩ <;> assumption))
    (first
      | (go_at_call 16; refine (toWhole_any neg1 A1 n1 c1 xs1 _ (by omega) (by have hrr := hr1.kept h; exact hrr)).mono ?_; rintro e w' ⟨A8, c8, rfl, ho8, hb⟩; have hq : Below w11.heap.size w11 w' := ⟨hb.os, hb.tape, hb.output, hb.size, hb.block⟩; obtain ⟨q1, q2⟩ := (hxx1.kept hq).two; obtain ⟨q3, q4⟩ := (hxa1.kept hq).two)
      | (go_at_call 18; refine (eqWhole_yes neg1 Ax1 _ _ cx1 _ _ xs1 _ (by omega) (by exact (hox1.kept hq).rd) (by exact ho8.rd)).mono ?_; rintro e w12 ⟨rfl, hb9⟩; have hb : Below w11.heap.size w11 w12 := Below.step hq ⟨hb9.os, hb9.tape, hb9.output, hb9.size, hb9.block⟩; obtain ⟨q5, q6⟩ := (hxx1.kept hb).two; obtain ⟨q7, q8⟩ := (hxa1.kept hb).two))
  replace h := Below.step h hb
  replace hxa0 := hxa0.kept hb
  replace hxa1 := hxa1.kept hb
  replace hxw := hxw.kept hb
  replace hxx0 := hxx0.kept hb
  replace hxx1 := hxx1.kept hb
  replace hxg := hxg.kept hb
  replace how := how.kept hb
  replace hox0 := hox0.kept hb
  replace hox1 := hox1.kept hb
  replace hog := hog.kept hb
  clear hb kaa0 kba0 kla0 kaa1 kba1 kla1 kaw kbw klw kax0 kbx0 klx0 kax1 kbx1 klx1 kag kbg klg
  clear hq hb9 q1 q2 q3 q4 q5 q6 q7 q8 ho8
  obtain ⟨kaa0, kba0⟩ := hxa0.two
  have kla0 := hxa0.lt
  obtain ⟨kaa1, kba1⟩ := hxa1.two
  have kla1 := hxa1.lt
  obtain ⟨kaw, kbw⟩ := hxw.two
  have klw := hxw.lt
  obtain ⟨kax0, kbx0⟩ := hxx0.two
  have klx0 := hxx0.lt
  obtain ⟨kax1, kbx1⟩ := hxx1.two
  have klx1 := hxx1.lt
  obtain ⟨kag, kbg⟩ := hxg.two
  have klg := hxg.lt
  go_wp2_with fail
  refine (markWhole_any neg0 Ax0 cx0 _ xs0 (1) _ (by omega) (by omega) hox0.own).mono ?_
  rintro e w13 ⟨rfl, hm, hg⟩
  replace h := hox0.below hg h lo_hox0
  replace hxa0 := hxa0.aside hox0 hg (by decide)
  replace hxa1 := hxa1.aside hox0 hg (by decide)
  replace hxw := hxw.aside hox0 hg (by decide)
  replace hxx0 := hxx0.aside hox0 hg (by decide)
  replace hxx1 := hxx1.aside hox0 hg (by decide)
  replace hxg := hxg.aside hox0 hg (by decide)
  replace how := how.aside hox0 hg (by first | exact .inl d_how_hox0 | exact .inr d_hox0_how)
  replace hox1 := hox1.aside hox0 hg (by first | exact .inl d_hox1_hox0 | exact .inr d_hox0_hox1)
  replace hog := hog.aside hox0 hg (by first | exact .inl d_hog_hox0 | exact .inr d_hox0_hog)
  clear hm
  clear hg kaa0 kba0 kla0 kaa1 kba1 kla1 kaw kbw klw kax0 kbx0 klx0 kax1 kbx1 klx1 kag kbg klg
  obtain ⟨kaa0, kba0⟩ := hxa0.two
  have kla0 := hxa0.lt
  obtain ⟨kaa1, kba1⟩ := hxa1.two
  have kla1 := hxa1.lt
  obtain ⟨kaw, kbw⟩ := hxw.two
  have klw := hxw.lt
  obtain ⟨kax0, kbx0⟩ := hxx0.two
  have klx0 := hxx0.lt
  obtain ⟨kax1, kbx1⟩ := hxx1.two
  have klx1 := hxx1.lt
  obtain ⟨kag, kbg⟩ := hxg.two
  have klg := hxg.lt
  go_wp2_with fail
  refine (markWhole_any neg1 Ax1 cx1 _ xs1 (1 + xs0.length) _ (by omega) (by omega) hox1.own).mono ?_
  rintro e w14 ⟨rfl, hm, hg⟩
  replace h := hox1.below hg h lo_hox1
  replace hxa0 := hxa0.aside hox1 hg (by decide)
  replace hxa1 := hxa1.aside hox1 hg (by decide)
  replace hxw := hxw.aside hox1 hg (by decide)
  replace hxx0 := hxx0.aside hox1 hg (by decide)
  replace hxx1 := hxx1.aside hox1 hg (by decide)
  replace hxg := hxg.aside hox1 hg (by decide)
  replace how := how.aside hox1 hg (by first | exact .inl d_how_hox1 | exact .inr d_hox1_how)
  replace hog := hog.aside hox1 hg (by first | exact .inl d_hog_hox1 | exact .inr d_hox1_hog)
  clear hm
  clear hg kaa0 kba0 kla0 kaa1 kba1 kla1 kaw kbw klw kax0 kbx0 klx0 kax1 kbx1 klx1 kag kbg klg
  obtain ⟨kaa0, kba0⟩ := hxa0.two
  have kla0 := hxa0.lt
  obtain ⟨kaa1, kba1⟩ := hxa1.two
  have kla1 := hxa1.lt
  obtain ⟨kaw, kbw⟩ := hxw.two
  have klw := hxw.lt
  obtain ⟨kax0, kbx0⟩ := hxx0.two
  have klx0 := hxx0.lt
  obtain ⟨kax1, kbx1⟩ := hxx1.two
  have klx1 := hxx1.lt
  obtain ⟨kag, kbg⟩ := hxg.two
  have klg := hxg.lt
  go_wp2_with fail
  refine (eqWhole_yes rn Ag Aw _ cg _ cw rs _ (by omega) hog.rd how.rd).mono ?_
  rintro e w15 ⟨rfl, hb⟩
  replace h := Below.step h hb
  replace hxa0 := hxa0.kept hb
  replace hxa1 := hxa1.kept hb
  replace hxw := hxw.kept hb
  replace hxx0 := hxx0.kept hb
  replace hxx1 := hxx1.kept hb
  replace hxg := hxg.kept hb
  replace how := how.kept hb
  replace hog := hog.kept hb
  clear hb kaa0 kba0 kla0 kaa1 kba1 kla1 kaw kbw klw kax0 kbx0 klx0 kax1 kbx1 klx1 kag kbg klg
  obtain ⟨kaa0, kba0⟩ := hxa0.two
  have kla0 := hxa0.lt
  obtain ⟨kaa1, kba1⟩ := hxa1.two
  have kla1 := hxa1.lt
  obtain ⟨kaw, kbw⟩ := hxw.two
  have klw := hxw.lt
  obtain ⟨kax0, kbx0⟩ := hxx0.two
  have klx0 := hxx0.lt
  obtain ⟨kax1, kbx1⟩ := hxx1.two
  have klx1 := hxx1.lt
  obtain ⟨kag, kbg⟩ := hxg.two
  have klg := hxg.lt
  go_wp2_with fail
  refine (markWhole_any rn Ag cg _ rs (1) _ (by omega) (by omega) hog.own).mono ?_
  rintro e w16 ⟨rfl, hm, hg⟩
  replace h := hog.below hg h lo_hog
  replace hxa0 := hxa0.aside hog hg (by decide)
  replace hxa1 := hxa1.aside hog hg (by decide)
  replace hxw := hxw.aside hog hg (by decide)
  replace hxx0 := hxx0.aside hog hg (by decide)
  replace hxx1 := hxx1.aside hog hg (by decide)
  replace hxg := hxg.aside hog hg (by decide)
  replace how := how.aside hog hg (by first | exact .inl d_how_hog | exact .inr d_hog_how)
  have hmk := hm.rd_marks
  clear hm
  clear hg kaa0 kba0 kla0 kaa1 kba1 kla1 kaw kbw klw kax0 kbx0 klx0 kax1 kbx1 klx1 kag kbg klg
  obtain ⟨kaa0, kba0⟩ := hxa0.two
  have kla0 := hxa0.lt
  obtain ⟨kaa1, kba1⟩ := hxa1.two
  have kla1 := hxa1.lt
  obtain ⟨kaw, kbw⟩ := hxw.two
  have klw := hxw.lt
  obtain ⟨kax0, kbx0⟩ := hxx0.two
  have klx0 := hxx0.lt
  obtain ⟨kax1, kbx1⟩ := hxx1.two
  have klx1 := hxx1.lt
  obtain ⟨kag, kbg⟩ := hxg.two
  have klg := hxg.lt
  go_wp2_with fail
  refine (heldWhole_any rn Ag rs.length cg _ 1 _ (Nat.le_refl _) (by omega) (by omega) hmk).mono ?_
  rintro e w17 ⟨rfl, hb⟩
  replace h := Below.step h hb
  replace hxa0 := hxa0.kept hb
  replace hxa1 := hxa1.kept hb
  replace hxw := hxw.kept hb
  replace hxx0 := hxx0.kept hb
  replace hxx1 := hxx1.kept hb
  replace hxg := hxg.kept hb
  replace how := how.kept hb
  replace hmk := hmk.kept hb
  clear hb kaa0 kba0 kla0 kaa1 kba1 kla1 kaw kbw klw kax0 kbx0 klx0 kax1 kbx1 klx1 kag kbg klg
  obtain ⟨kaa0, kba0⟩ := hxa0.two
  have kla0 := hxa0.lt
  obtain ⟨kaa1, kba1⟩ := hxa1.two
  have kla1 := hxa1.lt
  obtain ⟨kaw, kbw⟩ := hxw.two
  have klw := hxw.lt
  obtain ⟨kax0, kbx0⟩ := hxx0.two
  have klx0 := hxx0.lt
  obtain ⟨kax1, kbx1⟩ := hxx1.two
  have klx1 := hxx1.lt
  obtain ⟨kag, kbg⟩ := hxg.two
  have klg := hxg.lt
  go_upto_region 31 with fail
  have KM : ∀ (W : World), Below w17.heap.size w17 W → (W.cell? ⟨ga0, 0, none⟩ = some (.bool neg0) ∧ W.cell? ⟨ga0, 1, none⟩ = some (.slice A0 n0 c0) ∧ W.cell? ⟨ga1, 0, none⟩ = some (.bool neg1) ∧ W.cell? ⟨ga1, 1, none⟩ = some (.slice A1 n1 c1) ∧ Below w17.heap.size w17 W) := fun W hW => ⟨(hxa0.kept hW).two.1, (hxa0.kept hW).two.2, (hxa1.kept hW).two.1, (hxa1.kept hW).two.2, hW⟩
  have KA : ∀ (W : World) (o : Obj), (W.cell? ⟨ga0, 0, none⟩ = some (.bool neg0) ∧ W.cell? ⟨ga0, 1, none⟩ = some (.slice A0 n0 c0) ∧ W.cell? ⟨ga1, 0, none⟩ = some (.bool neg1) ∧ W.cell? ⟨ga1, 1, none⟩ = some (.slice A1 n1 c1) ∧ Below w17.heap.size w17 W) → ((W.alloc o).cell? ⟨ga0, 0, none⟩ = some (.bool neg0) ∧ (W.alloc o).cell? ⟨ga0, 1, none⟩ = some (.slice A0 n0 c0) ∧ (W.alloc o).cell? ⟨ga1, 0, none⟩ = some (.bool neg1) ∧ (W.alloc o).cell? ⟨ga1, 1, none⟩ = some (.slice A1 n1 c1) ∧ Below w17.heap.size w17 (W.alloc o)) := fun W o ⟨_, _, _, _, hW⟩ => KM _ (Below.step hW (below_alloc1 _ _))
  have KS : ∀ (W : World) (g i j : Nat) (u v : Value), w17.heap.size ≤ g → (W.cell? ⟨ga0, 0, none⟩ = some (.bool neg0) ∧ W.cell? ⟨ga0, 1, none⟩ = some (.slice A0 n0 c0) ∧ W.cell? ⟨ga1, 0, none⟩ = some (.bool neg1) ∧ W.cell? ⟨ga1, 1, none⟩ = some (.slice A1 n1 c1) ∧ Below w17.heap.size w17 W) → (((W.setCell ⟨g, i, none⟩ u).setCell ⟨g, j, none⟩ v).cell? ⟨ga0, 0, none⟩ = some (.bool neg0) ∧ ((W.setCell ⟨g, i, none⟩ u).setCell ⟨g, j, none⟩ v).cell? ⟨ga0, 1, none⟩ = some (.slice A0 n0 c0) ∧ ((W.setCell ⟨g, i, none⟩ u).setCell ⟨g, j, none⟩ v).cell? ⟨ga1, 0, none⟩ = some (.bool neg1) ∧ ((W.setCell ⟨g, i, none⟩ u).setCell ⟨g, j, none⟩ v).cell? ⟨ga1, 1, none⟩ = some (.slice A1 n1 c1) ∧ Below w17.heap.size w17 ((W.setCell ⟨g, i, none⟩ u).setCell ⟨g, j, none⟩ v)) := fun W g i j u v hg ⟨_, _, _, _, hW⟩ => KM _ ((hW.setCell hg _).setCell hg _)
  have KC : ∀ (W W' : World), Below W.heap.size W W' → (W.cell? ⟨ga0, 0, none⟩ = some (.bool neg0) ∧ W.cell? ⟨ga0, 1, none⟩ = some (.slice A0 n0 c0) ∧ W.cell? ⟨ga1, 0, none⟩ = some (.bool neg1) ∧ W.cell? ⟨ga1, 1, none⟩ = some (.slice A1 n1 c1) ∧ Below w17.heap.size w17 W) → (W'.cell? ⟨ga0, 0, none⟩ = some (.bool neg0) ∧ W'.cell? ⟨ga0, 1, none⟩ = some (.slice A0 n0 c0) ∧ W'.cell? ⟨ga1, 0, none⟩ = some (.bool neg1) ∧ W'.cell? ⟨ga1, 1, none⟩ = some (.slice A1 n1 c1) ∧ Below w17.heap.size w17 W') := fun W W' hb ⟨_, _, _, _, hW⟩ => KM _ (Below.step hW hb)
  have KR0 : ∀ (W : World), (W.cell? ⟨ga0, 0, none⟩ = some (.bool neg0) ∧ W.cell? ⟨ga0, 1, none⟩ = some (.slice A0 n0 c0) ∧ W.cell? ⟨ga1, 0, none⟩ = some (.bool neg1) ∧ W.cell? ⟨ga1, 1, none⟩ = some (.slice A1 n1 c1) ∧ Below w17.heap.size w17 W) → Rd W W.heap.size A0 n0 xs0 := fun W ⟨_, _, _, _, hW⟩ => hr0.kept (Below.step h hW)
  have KR1 : ∀ (W : World), (W.cell? ⟨ga0, 0, none⟩ = some (.bool neg0) ∧ W.cell? ⟨ga0, 1, none⟩ = some (.slice A0 n0 c0) ∧ W.cell? ⟨ga1, 0, none⟩ = some (.bool neg1) ∧ W.cell? ⟨ga1, 1, none⟩ = some (.slice A1 n1 c1) ∧ Below w17.heap.size w17 W) → Rd W W.heap.size A1 n1 xs1 := fun W ⟨_, _, _, _, hW⟩ => hr1.kept (Below.step h hW)
  have KB : ∀ (W : World), (W.cell? ⟨ga0, 0, none⟩ = some (.bool neg0) ∧ W.cell? ⟨ga0, 1, none⟩ = some (.slice A0 n0 c0) ∧ W.cell? ⟨ga1, 0, none⟩ = some (.bool neg1) ∧ W.cell? ⟨ga1, 1, none⟩ = some (.slice A1 n1 c1) ∧ Below w17.heap.size w17 W) → Below w17.heap.size w17 W := fun W ⟨_, _, _, _, hW⟩ => hW
  have KM0 := KM w17.drew ⟨rfl, rfl, rfl, Nat.le_refl _, fun _ _ => rfl⟩
  have KM00 := KM _ (Below.refl _ _)
  replace KA := Lib.hid KA
  replace KS := Lib.hid KS
  replace KC := Lib.hid KC
  replace KB := Lib.hid KB
  replace KR0 := Lib.hid KR0
  replace KR1 := Lib.hid KR1
  clear KM
  go_cut [15, 16] (fun s15 s16 wx => ∃ (g : Nat) (Ah : Option Addr) (ch lo : Nat), s15 = .pointer (some ⟨g, 0, none⟩) ∧ s16 = .bool ok ∧ Box wx g 27 #[.bool rn, .slice Ah rs.length ch] ∧ w17.heap.size ≤ lo ∧ Own wx lo (.slice Ah rs.length ch) rs ∧ Below w17.heap.size w17 wx)
  case first =>
    go_region_held3 (fun w' => w'.cell? ⟨ga0, 0, none⟩ = some (.bool neg0) ∧ w'.cell? ⟨ga0, 1, none⟩ = some (.slice A0 n0 c0) ∧ w'.cell? ⟨ga1, 0, none⟩ = some (.bool neg1) ∧ w'.cell? ⟨ga1, 1, none⟩ = some (.slice A1 n1 c1) ∧ Below w17.heap.size w17 w') ((first | assumption | (refine KA.out _ _ ?_; assumption) | (apply KC.out; assumption; assumption) | (refine KA.out (World.drew _) _ ?_; assumption) | (refine KS.out _ _ _ _ _ _ ?_ ?_; (first | exact Nat.le_refl _ | exact hs0 | exact hs1 | fail); assumption)))
      (first
        | (go_at_call 28; (with_reducible refine (hI.out _ _ _ _ _ ?_ ?_ ?_ ?_).mono ?_); (first | exact hoa0.rd | exact (hoa0.alloc _).rd | fail); (exact hoa0.cap); (first | exact hoa1.rd | exact (hoa1.alloc _).rd | fail); (exact hoa1.cap); rintro e wC ⟨Ah, ch, rfl, how, hbC⟩; have hSC : wC.cell? ⟨ga0, 0, none⟩ = some (.bool neg0) ∧ wC.cell? ⟨ga0, 1, none⟩ = some (.slice A0 n0 c0) ∧ wC.cell? ⟨ga1, 0, none⟩ = some (.bool neg1) ∧ wC.cell? ⟨ga1, 1, none⟩ = some (.slice A1 n1 c1) ∧ Below w17.heap.size w17 wC := KC.out _ _ hbC (by assumption); (first | have hgC := hgA1.kept hbC | have hgC := (Box.new wA1 27 #[.bool false, .slice none 0 0]).kept hbC | skip); (first | (obtain ⟨u0, u1⟩ := hgC.two; have u2 := hgC.free 0; have u3 := hgC.free 1) | skip))
        | (go_at_call 16; (with_reducible refine (toWhole_any neg1 A1 n1 c1 xs1 _ (by omega) ?_).mono ?_); (refine KR1.out _ ?_; assumption); rintro e wA1 ⟨B1, b1, rfl, hoa1, hbA1⟩; have hSwA1 : wA1.cell? ⟨ga0, 0, none⟩ = some (.bool neg0) ∧ wA1.cell? ⟨ga0, 1, none⟩ = some (.slice A0 n0 c0) ∧ wA1.cell? ⟨ga1, 0, none⟩ = some (.bool neg1) ∧ wA1.cell? ⟨ga1, 1, none⟩ = some (.slice A1 n1 c1) ∧ Below w17.heap.size w17 wA1 := KC.out _ _ hbA1 (by assumption); (first | have hgA1 := hgA0.kept hbA1 | have hgA1 := (Box.new wA0 27 #[.bool false, .slice none 0 0]).kept hbA1 | skip); obtain ⟨lo0_1, hoa0⟩ : ∃ lo, Own wA1 lo (.slice B0 xs0.length b0) xs0 := (by first | exact ⟨_, hoa0.kept hbA1⟩ | exact ⟨_, (hoa0.alloc _).kept hbA1⟩); have hs1 : w17.heap.size ≤ wA1.heap.size := (by have q := hbA1.size; (try simp at q); omega))
        | (go_at_call 16; (with_reducible refine (toWhole_any neg0 A0 n0 c0 xs0 _ (by omega) ?_).mono ?_); (refine KR0.out _ ?_; assumption); rintro e wA0 ⟨B0, b0, rfl, hoa0, hbA0⟩; have hSwA0 : wA0.cell? ⟨ga0, 0, none⟩ = some (.bool neg0) ∧ wA0.cell? ⟨ga0, 1, none⟩ = some (.slice A0 n0 c0) ∧ wA0.cell? ⟨ga1, 0, none⟩ = some (.bool neg1) ∧ wA0.cell? ⟨ga1, 1, none⟩ = some (.slice A1 n1 c1) ∧ Below w17.heap.size w17 wA0 := KC.out _ _ hbA0 (by assumption); (first | have hgA0 := (Box.new w17 27 #[.bool false, .slice none 0 0]).kept (w' := wA0) ⟨hbA0.os, hbA0.tape, hbA0.output, hbA0.size, hbA0.block⟩ | skip); have hs0 : w17.heap.size ≤ wA0.heap.size := (by have q := hbA0.size; (try simp at q); omega)))
    all_goals (go_wp2_with fail; go_meet)
    all_goals (first
      | refine ⟨_, Ah, ch, _, rfl, rfl, Box.new _ _ _, ?_, how.alloc _, KB.out _ ?_⟩
      | refine ⟨_, Ah, ch, _, rfl, rfl, (hgC.set 0 _).set 1 _, ?_, (how.set_below ?_ _).set_below ?_ _, KB.out _ ?_⟩)
    all_goals (first | assumption | (have q0 := hbA0.size; (try simp at q0); have q1 := hbA1.size; (try simp at q1); have q := hbC.size; (try simp at q); (first | omega | (simp; done) | (simp; omega))))
  obtain ⟨gh, Ah, ch, loh, rfl, rfl, hxh, lo_hoh, hoh, hb⟩ := hcut
  have d_how_hoh := Nat.le_trans how.le lo_hoh
  replace lo_hoh := Nat.le_trans h.size lo_hoh
  replace hoh := hoh.I
  clear KA KS KC KB KR0 KR1 KM0 KM00
  replace h := Below.step h hb
  replace hxa0 := hxa0.kept hb
  replace hxa1 := hxa1.kept hb
  replace hxw := hxw.kept hb
  replace hxx0 := hxx0.kept hb
  replace hxx1 := hxx1.kept hb
  replace hxg := hxg.kept hb
  replace how := how.kept hb
  replace hmk := hmk.kept hb
  clear hb kaa0 kba0 kla0 kaa1 kba1 kla1 kaw kbw klw kax0 kbx0 klx0 kax1 kbx1 klx1 kag kbg klg
  obtain ⟨kaa0, kba0⟩ := hxa0.two
  have kla0 := hxa0.lt
  obtain ⟨kaa1, kba1⟩ := hxa1.two
  have kla1 := hxa1.lt
  obtain ⟨kaw, kbw⟩ := hxw.two
  have klw := hxw.lt
  obtain ⟨kax0, kbx0⟩ := hxx0.two
  have klx0 := hxx0.lt
  obtain ⟨kax1, kbx1⟩ := hxx1.two
  have klx1 := hxx1.lt
  obtain ⟨kag, kbg⟩ := hxg.two
  have klg := hxg.lt
  obtain ⟨kah, kbh⟩ := hxh.two
  have klh := hxh.lt
  go_wp2_with fail
  refine (eqWhole_yes rn Ah Aw _ ch _ cw rs _ (by omega) hoh.rd how.rd).mono ?_
  rintro e w19 ⟨rfl, hb⟩
  replace h := Below.step h hb
  replace hxa0 := hxa0.kept hb
  replace hxa1 := hxa1.kept hb
  replace hxw := hxw.kept hb
  replace hxx0 := hxx0.kept hb
  replace hxx1 := hxx1.kept hb
  replace hxg := hxg.kept hb
  replace hxh := hxh.kept hb
  replace how := how.kept hb
  replace hoh := hoh.kept hb
  replace hmk := hmk.kept hb
  clear hb kaa0 kba0 kla0 kaa1 kba1 kla1 kaw kbw klw kax0 kbx0 klx0 kax1 kbx1 klx1 kag kbg klg kah kbh klh
  obtain ⟨kaa0, kba0⟩ := hxa0.two
  have kla0 := hxa0.lt
  obtain ⟨kaa1, kba1⟩ := hxa1.two
  have kla1 := hxa1.lt
  obtain ⟨kaw, kbw⟩ := hxw.two
  have klw := hxw.lt
  obtain ⟨kax0, kbx0⟩ := hxx0.two
  have klx0 := hxx0.lt
  obtain ⟨kax1, kbx1⟩ := hxx1.two
  have klx1 := hxx1.lt
  obtain ⟨kag, kbg⟩ := hxg.two
  have klg := hxg.lt
  obtain ⟨kah, kbh⟩ := hxh.two
  have klh := hxh.lt
  go_wp2_with fail
  refine (heldWhole_any rn Ag rs.length cg _ 1 _ (Nat.le_refl _) (by omega) (by omega) hmk).mono ?_
  rintro e w20 ⟨rfl, hb⟩
  replace h := Below.step h hb
  replace hxa0 := hxa0.kept hb
  replace hxa1 := hxa1.kept hb
  replace hxw := hxw.kept hb
  replace hxx0 := hxx0.kept hb
  replace hxx1 := hxx1.kept hb
  replace hxg := hxg.kept hb
  replace hxh := hxh.kept hb
  replace how := how.kept hb
  replace hoh := hoh.kept hb
  replace hmk := hmk.kept hb
  clear hb kaa0 kba0 kla0 kaa1 kba1 kla1 kaw kbw klw kax0 kbx0 klx0 kax1 kbx1 klx1 kag kbg klg kah kbh klh
  go_wp2
  go_ret
  exact ⟨rfl, h⟩
end Go.Proofs.Ytlkdelhmjjnnnaa
