/- The core of the law of PowerOfWhole (written by wip/gen/lawgen.py): it answers true if the model and the program hand back the same. -/
import Derived.Test.YtlkdelhmjjnnnaaWhole
import Derived.Deep.RegionHeld3
import Derived.Deep.DeepCutAuto
namespace Go.Proofs.Ytlkdelhmjjnnnaa
open Go.RowKit Go.Joins

set_option maxHeartbeats 4000000 in
set_option maxRecDepth 100000 in
theorem lawPowerOfWhole_core (neg0 : Bool) (A0 : Option Addr) (n0 c0 : Nat) (xs0 : List Int) (z1 : Int) (w : World) (hm0 : n0 ≤ 9223372036854775807) (hr0 : Rd w w.heap.size A0 n0 xs0) (rn : Bool) (rs : List Int) (hrs : rs.length ≤ 1048576) (ok : Bool)
    (hS : xs0.length ≤ 1048576 → ∀ (A0 : Option Addr) (c0 : Nat) (w : World), Rd w w.heap.size A0 xs0.length xs0 → xs0.length ≤ c0 → Calls Try.prog 37 #[.agg #[.bool neg0, .slice A0 xs0.length c0], .int .i64 z1] w (GivesWholeOk w rn rs ok))
    (hI : xs0.length ≤ 1048576 → ∀ (A0 : Option Addr) (c0 : Nat) (w : World), Rd w w.heap.size A0 xs0.length xs0 → xs0.length ≤ c0 → Calls Try.prog 38 #[.agg #[.bool neg0, .slice A0 xs0.length c0], .int .i64 z1] w (GivesWholeOk w rn rs ok)) :
    Calls Try.prog 12 #[.agg #[.bool neg0, .slice A0 n0 c0], .int .i64 z1] w fun e w' => e = .returned (.bool true) ∧ Below w.heap.size w w' := by
  have h := Below.refl w.heap.size w
  have hA := below_alloc1 w (.cells #[.bool neg0, .slice A0 n0 c0] 24)
  replace h := Below.step h hA
  have hxa0 := Box.new w 24 #[.bool neg0, .slice A0 n0 c0]
  clear hA
  by_cases hbig0 : 1048576 < (n0 : Int)
  · clear hS hI
    go_enter Try.func12, Try.ntmps12
    go_wp2_with fail
    have hz := szWhole_any neg0 A0 n0 c0 (1048576) (w.alloc (.cells #[.bool neg0, .slice A0 n0 c0] 24)) hm0 (by omega) (by omega)
    rw [if_pos (by omega)] at hz
    replace hz := Lib.hid hz
    refine (hz.out).mono ?_
    rintro e w1 ⟨rfl, hb⟩
    replace h := Below.step h hb
    replace hxa0 := hxa0.kept hb
    clear hb
    clear hz
    go_wp2
    go_ret
    exact ⟨rfl, h⟩
  have hlen0 : xs0.length ≤ 1048576 := by rw [hr0.1]; omega
  replace hS := Lib.hid (hS hlen0)
  replace hI := Lib.hid (hI hlen0)
  have e0 : (ok != ok) = false := by simp
  have e2 : (1 + (rs.length : Int) != 1 + rs.length) = false := by simp
  go_enter Try.func12, Try.ntmps12
  go_wp2_with fail
  have hz := szWhole_any neg0 A0 n0 c0 (1048576) (w.alloc (.cells #[.bool neg0, .slice A0 n0 c0] 24)) hm0 (by omega) (by omega)
  rw [if_neg (by omega)] at hz
  replace hz := Lib.hid hz
  refine (hz.out).mono ?_
  rintro e w1 ⟨rfl, hb⟩
  replace h := Below.step h hb
  replace hxa0 := hxa0.kept hb
  clear hb
  clear hz
  obtain ⟨kaa0, kba0⟩ := hxa0.two
  have kla0 := hxa0.lt
  obtain ⟨ga0, hga0⟩ : ∃ g, g = w.heap.size := ⟨_, rfl⟩
  rw [← hga0] at hxa0 kaa0 kba0 kla0 ⊢
  clear hga0
  go_wp2_with fail
  have lo_hos0 := h.size
  refine (toWhole_any neg0 A0 n0 c0 xs0 _ (by omega) (hr0.kept h)).mono ?_
  rintro e w2 ⟨As0, cs0, rfl, hos0, hb⟩
  replace hos0 := hos0.I
  replace h := Below.step h hb
  replace hxa0 := hxa0.kept hb
  clear hb kaa0 kba0 kla0
  obtain ⟨kaa0, kba0⟩ := hxa0.two
  have kla0 := hxa0.lt
  go_wp2_with fail
  have d_hos0_how := hos0.le
  have lo_how := h.size
  refine (hS.out As0 cs0 _ hos0.rd hos0.own.cap).mono ?_
  rintro e w3 ⟨Aw, cw, rfl, how, hb⟩
  replace how := how.I
  replace h := Below.step h hb
  replace hxa0 := hxa0.kept hb
  replace hos0 := hos0.kept hb
  clear hb kaa0 kba0 kla0
  clear hos0
  obtain ⟨kaa0, kba0⟩ := hxa0.two
  have kla0 := hxa0.lt
  go_wp2_with fail
  have hA := below_alloc1 w3 (.cells #[.bool rn, .slice Aw rs.length cw] 27)
  have hxw := Box.new w3 27 #[.bool rn, .slice Aw rs.length cw]
  replace h := Below.step h hA
  replace hxa0 := hxa0.kept hA
  replace how := how.kept hA
  clear hA kaa0 kba0 kla0
  generalize w3.alloc (.cells #[.bool rn, .slice Aw rs.length cw] 27) = w4 at *
  generalize w3.heap.size = gw at hxw ⊢
  have d_how_hox0 := how.le
  have lo_hox0 := h.size
  refine (toWhole_any neg0 A0 n0 c0 xs0 _ (by omega) (hr0.kept h)).mono ?_
  rintro e w5 ⟨Ax0, cx0, rfl, hox0, hb⟩
  replace hox0 := hox0.I
  replace h := Below.step h hb
  replace hxa0 := hxa0.kept hb
  replace hxw := hxw.kept hb
  replace how := how.kept hb
  clear hb
  obtain ⟨kaa0, kba0⟩ := hxa0.two
  have kla0 := hxa0.lt
  obtain ⟨kaw, kbw⟩ := hxw.two
  have klw := hxw.lt
  go_wp2_with fail
  have hA := below_alloc1 w5 (.cells #[.bool neg0, .slice Ax0 xs0.length cx0] 27)
  have hxx0 := Box.new w5 27 #[.bool neg0, .slice Ax0 xs0.length cx0]
  replace h := Below.step h hA
  replace hxa0 := hxa0.kept hA
  replace hxw := hxw.kept hA
  replace how := how.kept hA
  replace hox0 := hox0.kept hA
  clear hA kaa0 kba0 kla0 kaw kbw klw
  generalize w5.alloc (.cells #[.bool neg0, .slice Ax0 xs0.length cx0] 27) = w6 at *
  generalize w5.heap.size = gx0 at hxx0 ⊢
  have d_how_hog := how.le
  have d_hox0_hog := hox0.le
  have lo_hog := h.size
  refine (hI.out Ax0 cx0 _ hox0.rd hox0.own.cap).mono ?_
  rintro e w7 ⟨Ag, cg, rfl, hog, hb⟩
  replace hog := hog.I
  replace h := Below.step h hb
  replace hxa0 := hxa0.kept hb
  replace hxw := hxw.kept hb
  replace hxx0 := hxx0.kept hb
  replace how := how.kept hb
  replace hox0 := hox0.kept hb
  clear hb
  obtain ⟨kaa0, kba0⟩ := hxa0.two
  have kla0 := hxa0.lt
  obtain ⟨kaw, kbw⟩ := hxw.two
  have klw := hxw.lt
  obtain ⟨kax0, kbx0⟩ := hxx0.two
  have klx0 := hxx0.lt
  go_wp2_with fail
  have hA := below_alloc1 w7 (.cells #[.bool rn, .slice Ag rs.length cg] 27)
  have hxg := Box.new w7 27 #[.bool rn, .slice Ag rs.length cg]
  replace h := Below.step h hA
  replace hxa0 := hxa0.kept hA
  replace hxw := hxw.kept hA
  replace hxx0 := hxx0.kept hA
  replace how := how.kept hA
  replace hox0 := hox0.kept hA
  replace hog := hog.kept hA
  clear hA kaa0 kba0 kla0 kaw kbw klw kax0 kbx0 klx0
  generalize w7.alloc (.cells #[.bool rn, .slice Ag rs.length cg] 27) = w8 at *
  generalize w7.heap.size = gg at hxg ⊢
  refine (eqWhole_yes rn Ag Aw _ cg _ cw rs _ (by omega) hog.rd how.rd).mono ?_
  rintro e w9 ⟨rfl, hb⟩
  replace h := Below.step h hb
  replace hxa0 := hxa0.kept hb
  replace hxw := hxw.kept hb
  replace hxx0 := hxx0.kept hb
  replace hxg := hxg.kept hb
  replace how := how.kept hb
  replace hox0 := hox0.kept hb
  replace hog := hog.kept hb
  clear hb
  obtain ⟨kaa0, kba0⟩ := hxa0.two
  have kla0 := hxa0.lt
  obtain ⟨kaw, kbw⟩ := hxw.two
  have klw := hxw.lt
  obtain ⟨kax0, kbx0⟩ := hxx0.two
  have klx0 := hxx0.lt
  obtain ⟨kag, kbg⟩ := hxg.two
  have klg := hxg.lt
  go_wp2_with fail
  go_region_held3 (fun w' => w'.cell? ⟨gx0, 0, none⟩ = some (.bool neg0) ∧ w'.cell? ⟨gx0, 1, none⟩ = some (.slice Ax0 xs0.length cx0) ∧ w'.cell? ⟨ga0, 0, none⟩ = some (.bool neg0) ∧ w'.cell? ⟨ga0, 1, none⟩ = some (.slice A0 n0 c0)) ((refine ⟨?_, ?_, ?_, ?_⟩ <;> assumption))
    (first
      | (go_at_call 16; refine (toWhole_any neg0 A0 n0 c0 xs0 _ (by omega) (by have hrr := hr0.kept h; exact hrr)).mono ?_; rintro e w' ⟨A8, c8, rfl, ho8, hb⟩; have hq : Below w9.heap.size w9 w' := ⟨hb.os, hb.tape, hb.output, hb.size, hb.block⟩; obtain ⟨q1, q2⟩ := (hxx0.kept hq).two; obtain ⟨q3, q4⟩ := (hxa0.kept hq).two)
      | (go_at_call 18; refine (eqWhole_yes neg0 Ax0 _ _ cx0 _ _ xs0 _ (by omega) (by exact (hox0.kept hq).rd) (by exact ho8.rd)).mono ?_; rintro e w10 ⟨rfl, hb9⟩; have hb : Below w9.heap.size w9 w10 := Below.step hq ⟨hb9.os, hb9.tape, hb9.output, hb9.size, hb9.block⟩; obtain ⟨q5, q6⟩ := (hxx0.kept hb).two; obtain ⟨q7, q8⟩ := (hxa0.kept hb).two))
  replace h := Below.step h hb
  replace hxa0 := hxa0.kept hb
  replace hxw := hxw.kept hb
  replace hxx0 := hxx0.kept hb
  replace hxg := hxg.kept hb
  replace how := how.kept hb
  replace hox0 := hox0.kept hb
  replace hog := hog.kept hb
  clear hb kaa0 kba0 kla0 kaw kbw klw kax0 kbx0 klx0 kag kbg klg
  clear hq hb9 q1 q2 q3 q4 q5 q6 q7 q8 ho8
  obtain ⟨kaa0, kba0⟩ := hxa0.two
  have kla0 := hxa0.lt
  obtain ⟨kaw, kbw⟩ := hxw.two
  have klw := hxw.lt
  obtain ⟨kax0, kbx0⟩ := hxx0.two
  have klx0 := hxx0.lt
  obtain ⟨kag, kbg⟩ := hxg.two
  have klg := hxg.lt
  go_wp2_with fail
  refine (markWhole_any neg0 Ax0 cx0 _ xs0 (1) _ (by omega) (by omega) hox0.own).mono ?_
  rintro e w11 ⟨rfl, hm, hg⟩
  replace h := hox0.below hg h lo_hox0
  replace hxa0 := hxa0.aside hox0 hg (by decide)
  replace hxw := hxw.aside hox0 hg (by decide)
  replace hxx0 := hxx0.aside hox0 hg (by decide)
  replace hxg := hxg.aside hox0 hg (by decide)
  replace how := how.aside hox0 hg (by first | exact .inl d_how_hox0 | exact .inr d_hox0_how)
  replace hog := hog.aside hox0 hg (by first | exact .inl d_hog_hox0 | exact .inr d_hox0_hog)
  clear hm
  clear hg kaa0 kba0 kla0 kaw kbw klw kax0 kbx0 klx0 kag kbg klg
  obtain ⟨kaa0, kba0⟩ := hxa0.two
  have kla0 := hxa0.lt
  obtain ⟨kaw, kbw⟩ := hxw.two
  have klw := hxw.lt
  obtain ⟨kax0, kbx0⟩ := hxx0.two
  have klx0 := hxx0.lt
  obtain ⟨kag, kbg⟩ := hxg.two
  have klg := hxg.lt
  go_wp2_with fail
  refine (eqWhole_yes rn Ag Aw _ cg _ cw rs _ (by omega) hog.rd how.rd).mono ?_
  rintro e w12 ⟨rfl, hb⟩
  replace h := Below.step h hb
  replace hxa0 := hxa0.kept hb
  replace hxw := hxw.kept hb
  replace hxx0 := hxx0.kept hb
  replace hxg := hxg.kept hb
  replace how := how.kept hb
  replace hog := hog.kept hb
  clear hb kaa0 kba0 kla0 kaw kbw klw kax0 kbx0 klx0 kag kbg klg
  obtain ⟨kaa0, kba0⟩ := hxa0.two
  have kla0 := hxa0.lt
  obtain ⟨kaw, kbw⟩ := hxw.two
  have klw := hxw.lt
  obtain ⟨kax0, kbx0⟩ := hxx0.two
  have klx0 := hxx0.lt
  obtain ⟨kag, kbg⟩ := hxg.two
  have klg := hxg.lt
  go_wp2_with fail
  refine (markWhole_any rn Ag cg _ rs (1) _ (by omega) (by omega) hog.own).mono ?_
  rintro e w13 ⟨rfl, hm, hg⟩
  replace h := hog.below hg h lo_hog
  replace hxa0 := hxa0.aside hog hg (by decide)
  replace hxw := hxw.aside hog hg (by decide)
  replace hxx0 := hxx0.aside hog hg (by decide)
  replace hxg := hxg.aside hog hg (by decide)
  replace how := how.aside hog hg (by first | exact .inl d_how_hog | exact .inr d_hog_how)
  have hmk := hm.rd_marks
  clear hm
  clear hg kaa0 kba0 kla0 kaw kbw klw kax0 kbx0 klx0 kag kbg klg
  obtain ⟨kaa0, kba0⟩ := hxa0.two
  have kla0 := hxa0.lt
  obtain ⟨kaw, kbw⟩ := hxw.two
  have klw := hxw.lt
  obtain ⟨kax0, kbx0⟩ := hxx0.two
  have klx0 := hxx0.lt
  obtain ⟨kag, kbg⟩ := hxg.two
  have klg := hxg.lt
  go_wp2_with fail
  refine (heldWhole_any rn Ag rs.length cg _ 1 _ (Nat.le_refl _) (by omega) (by omega) hmk).mono ?_
  rintro e w14 ⟨rfl, hb⟩
  replace h := Below.step h hb
  replace hxa0 := hxa0.kept hb
  replace hxw := hxw.kept hb
  replace hxx0 := hxx0.kept hb
  replace hxg := hxg.kept hb
  replace how := how.kept hb
  replace hmk := hmk.kept hb
  clear hb kaa0 kba0 kla0 kaw kbw klw kax0 kbx0 klx0 kag kbg klg
  obtain ⟨kaa0, kba0⟩ := hxa0.two
  have kla0 := hxa0.lt
  obtain ⟨kaw, kbw⟩ := hxw.two
  have klw := hxw.lt
  obtain ⟨kax0, kbx0⟩ := hxx0.two
  have klx0 := hxx0.lt
  obtain ⟨kag, kbg⟩ := hxg.two
  have klg := hxg.lt
  go_wp2_with fail
  have d_how_hot0 := how.le
  have lo_hot0 := h.size
  refine (toWhole_any neg0 A0 n0 c0 xs0 _ (by omega) (hr0.kept h)).mono ?_
  rintro e w15 ⟨At0, ct0, rfl, hot0, hb⟩
  replace hot0 := hot0.I
  replace h := Below.step h hb
  replace hxa0 := hxa0.kept hb
  replace hxw := hxw.kept hb
  replace hxx0 := hxx0.kept hb
  replace hxg := hxg.kept hb
  replace how := how.kept hb
  replace hmk := hmk.kept hb
  clear hb kaa0 kba0 kla0 kaw kbw klw kax0 kbx0 klx0 kag kbg klg
  obtain ⟨kaa0, kba0⟩ := hxa0.two
  have kla0 := hxa0.lt
  obtain ⟨kaw, kbw⟩ := hxw.two
  have klw := hxw.lt
  obtain ⟨kax0, kbx0⟩ := hxx0.two
  have klx0 := hxx0.lt
  obtain ⟨kag, kbg⟩ := hxg.two
  have klg := hxg.lt
  go_wp2_with fail
  have d_how_hoh := how.le
  have d_hot0_hoh := hot0.le
  have lo_hoh := h.size
  refine (hI.out At0 ct0 _ hot0.rd hot0.own.cap).mono ?_
  rintro e w16 ⟨Ah, ch, rfl, hoh, hb⟩
  replace hoh := hoh.I
  replace h := Below.step h hb
  replace hxa0 := hxa0.kept hb
  replace hxw := hxw.kept hb
  replace hxx0 := hxx0.kept hb
  replace hxg := hxg.kept hb
  replace how := how.kept hb
  replace hot0 := hot0.kept hb
  replace hmk := hmk.kept hb
  clear hb kaa0 kba0 kla0 kaw kbw klw kax0 kbx0 klx0 kag kbg klg
  clear hot0
  obtain ⟨kaa0, kba0⟩ := hxa0.two
  have kla0 := hxa0.lt
  obtain ⟨kaw, kbw⟩ := hxw.two
  have klw := hxw.lt
  obtain ⟨kax0, kbx0⟩ := hxx0.two
  have klx0 := hxx0.lt
  obtain ⟨kag, kbg⟩ := hxg.two
  have klg := hxg.lt
  go_wp2_with fail
  have hA := below_alloc1 w16 (.cells #[.bool rn, .slice Ah rs.length ch] 27)
  have hxh := Box.new w16 27 #[.bool rn, .slice Ah rs.length ch]
  replace h := Below.step h hA
  replace hxa0 := hxa0.kept hA
  replace hxw := hxw.kept hA
  replace hxx0 := hxx0.kept hA
  replace hxg := hxg.kept hA
  replace how := how.kept hA
  replace hoh := hoh.kept hA
  replace hmk := hmk.kept hA
  clear hA kaa0 kba0 kla0 kaw kbw klw kax0 kbx0 klx0 kag kbg klg
  generalize w16.alloc (.cells #[.bool rn, .slice Ah rs.length ch] 27) = w17 at *
  generalize w16.heap.size = gh at hxh ⊢
  refine (eqWhole_yes rn Ah Aw _ ch _ cw rs _ (by omega) hoh.rd how.rd).mono ?_
  rintro e w18 ⟨rfl, hb⟩
  replace h := Below.step h hb
  replace hxa0 := hxa0.kept hb
  replace hxw := hxw.kept hb
  replace hxx0 := hxx0.kept hb
  replace hxg := hxg.kept hb
  replace hxh := hxh.kept hb
  replace how := how.kept hb
  replace hoh := hoh.kept hb
  replace hmk := hmk.kept hb
  clear hb
  obtain ⟨kaa0, kba0⟩ := hxa0.two
  have kla0 := hxa0.lt
  obtain ⟨kaw, kbw⟩ := hxw.two
  have klw := hxw.lt
  obtain ⟨kax0, kbx0⟩ := hxx0.two
  have klx0 := hxx0.lt
  obtain ⟨kag, kbg⟩ := hxg.two
  have klg := hxg.lt
  obtain ⟨kah, kbh⟩ := hxh.two
  have klh := hxh.lt
  go_wp2_with fail
  refine (heldWhole_any rn Ag rs.length cg _ 1 _ (Nat.le_refl _) (by omega) (by omega) hmk).mono ?_
  rintro e w19 ⟨rfl, hb⟩
  replace h := Below.step h hb
  replace hxa0 := hxa0.kept hb
  replace hxw := hxw.kept hb
  replace hxx0 := hxx0.kept hb
  replace hxg := hxg.kept hb
  replace hxh := hxh.kept hb
  replace how := how.kept hb
  replace hoh := hoh.kept hb
  replace hmk := hmk.kept hb
  clear hb kaa0 kba0 kla0 kaw kbw klw kax0 kbx0 klx0 kag kbg klg kah kbh klh
  go_wp2
  go_ret
  exact ⟨rfl, h⟩
end Go.Proofs.Ytlkdelhmjjnnnaa
