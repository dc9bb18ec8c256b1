/- The core of the law of ParseWhole (written by wip/gen/lawgen.py): it answers true if the model and the program hand back the same. -/
import Derived.Test.YtllbbfkgobhcgaaPwWhole
import Derived.Test.YtllbbfkgobhcgaaPwMath
import Derived.Deep.RegionHeld3
import Derived.Deep.DeepCutAuto
namespace Go.Proofs.Ytllbbfkgobhcgaa
open Go.RowKit Go.Joins

set_option maxHeartbeats 4000000 in
set_option maxRecDepth 100000 in
theorem lawParseWhole_core (s0 : ByteArray) (w : World) (hs0 : s0.size ≤ 1048576) (rn : Bool) (rs : List Int) (hrs : rs.length ≤ 1048576) (ok : Bool)
    (hS :  ∀ (w : World),  Calls Try.prog 4 #[.string s0] w (GivesWholeOk w rn rs ok))
    (hI :  ∀ (w : World),  Calls Try.prog 5 #[.string s0] w (GivesWholeOk w rn rs ok)) :
    Calls Try.prog 3 #[.string s0] w fun e w' => e = .returned (.bool true) ∧ Below w.heap.size w w' := by
  have h := Below.refl w.heap.size w
  replace hS := Lib.hid (hS)
  replace hI := Lib.hid (hI)
  have e0 : (ok != ok) = false := by simp
  have e2 : (1 + (rs.length : Int) != 1 + rs.length) = false := by simp
  go_enter Try.func3, Try.ntmps3
  go_wp2_with fail
  have lo_how := h.size
  refine (hS.out  _ ).mono ?_
  rintro e w1 ⟨Aw, cw, rfl, how, hb⟩
  replace how := how.I
  replace h := Below.step h hb
  clear hb
  go_wp2_with fail
  have hA := below_alloc1 w1 (.cells #[.bool rn, .slice Aw rs.length cw] 24)
  have hxw := Box.new w1 24 #[.bool rn, .slice Aw rs.length cw]
  replace h := Below.step h hA
  replace how := how.kept hA
  clear hA
  generalize w1.alloc (.cells #[.bool rn, .slice Aw rs.length cw] 24) = w2 at *
  generalize w1.heap.size = gw at hxw ⊢
  have d_how_hog := how.le
  have lo_hog := h.size
  refine (hI.out  _ ).mono ?_
  rintro e w3 ⟨Ag, cg, rfl, hog, hb⟩
  replace hog := hog.I
  replace h := Below.step h hb
  replace hxw := hxw.kept hb
  replace how := how.kept hb
  clear hb
  obtain ⟨kaw, kbw⟩ := hxw.two
  have klw := hxw.lt
  go_wp2_with fail
  have hA := below_alloc1 w3 (.cells #[.bool rn, .slice Ag rs.length cg] 24)
  have hxg := Box.new w3 24 #[.bool rn, .slice Ag rs.length cg]
  replace h := Below.step h hA
  replace hxw := hxw.kept hA
  replace how := how.kept hA
  replace hog := hog.kept hA
  clear hA kaw kbw klw
  generalize w3.alloc (.cells #[.bool rn, .slice Ag rs.length cg] 24) = w4 at *
  generalize w3.heap.size = gg at hxg ⊢
  refine (eqWhole_yes rn Ag Aw _ cg _ cw rs _ (by omega) hog.rd how.rd).mono ?_
  rintro e w5 ⟨rfl, hb⟩
  replace h := Below.step h hb
  replace hxw := hxw.kept hb
  replace hxg := hxg.kept hb
  replace how := how.kept hb
  replace hog := hog.kept hb
  clear hb
  obtain ⟨kaw, kbw⟩ := hxw.two
  have klw := hxw.lt
  obtain ⟨kag, kbg⟩ := hxg.two
  have klg := hxg.lt
  go_wp2_with fail
  refine (markWhole_any rn Ag cg _ rs (1) _ (by omega) (by omega) hog.own).mono ?_
  rintro e w6 ⟨rfl, hm, hg⟩
  replace h := hog.below hg h lo_hog
  replace hxw := hxw.aside hog hg (by decide)
  replace hxg := hxg.aside hog hg (by decide)
  replace how := how.aside hog hg (by first | exact .inl d_how_hog | exact .inr d_hog_how)
  have hmk := hm.rd_marks
  clear hm
  clear hg kaw kbw klw kag kbg klg
  obtain ⟨kaw, kbw⟩ := hxw.two
  have klw := hxw.lt
  obtain ⟨kag, kbg⟩ := hxg.two
  have klg := hxg.lt
  go_wp2_with fail
  refine (heldWhole_any rn Ag rs.length cg _ 1 _ (Nat.le_refl _) (by omega) (by omega) hmk).mono ?_
  rintro e w7 ⟨rfl, hb⟩
  replace h := Below.step h hb
  replace hxw := hxw.kept hb
  replace hxg := hxg.kept hb
  replace how := how.kept hb
  replace hmk := hmk.kept hb
  clear hb kaw kbw klw kag kbg klg
  obtain ⟨kaw, kbw⟩ := hxw.two
  have klw := hxw.lt
  obtain ⟨kag, kbg⟩ := hxg.two
  have klg := hxg.lt
  go_wp2_with fail
  have d_how_hoh := how.le
  have lo_hoh := h.size
  refine (hI.out  _ ).mono ?_
  rintro e w8 ⟨Ah, ch, rfl, hoh, hb⟩
  replace hoh := hoh.I
  replace h := Below.step h hb
  replace hxw := hxw.kept hb
  replace hxg := hxg.kept hb
  replace how := how.kept hb
  replace hmk := hmk.kept hb
  clear hb kaw kbw klw kag kbg klg
  obtain ⟨kaw, kbw⟩ := hxw.two
  have klw := hxw.lt
  obtain ⟨kag, kbg⟩ := hxg.two
  have klg := hxg.lt
  go_wp2_with fail
  have hA := below_alloc1 w8 (.cells #[.bool rn, .slice Ah rs.length ch] 24)
  have hxh := Box.new w8 24 #[.bool rn, .slice Ah rs.length ch]
  replace h := Below.step h hA
  replace hxw := hxw.kept hA
  replace hxg := hxg.kept hA
  replace how := how.kept hA
  replace hoh := hoh.kept hA
  replace hmk := hmk.kept hA
  clear hA kaw kbw klw kag kbg klg
  generalize w8.alloc (.cells #[.bool rn, .slice Ah rs.length ch] 24) = w9 at *
  generalize w8.heap.size = gh at hxh ⊢
  refine (eqWhole_yes rn Ah Aw _ ch _ cw rs _ (by omega) hoh.rd how.rd).mono ?_
  rintro e w10 ⟨rfl, hb⟩
  replace h := Below.step h hb
  replace hxw := hxw.kept hb
  replace hxg := hxg.kept hb
  replace hxh := hxh.kept hb
  replace how := how.kept hb
  replace hoh := hoh.kept hb
  replace hmk := hmk.kept hb
  clear hb
  obtain ⟨kaw, kbw⟩ := hxw.two
  have klw := hxw.lt
  obtain ⟨kag, kbg⟩ := hxg.two
  have klg := hxg.lt
  obtain ⟨kah, kbh⟩ := hxh.two
  have klh := hxh.lt
  go_wp2_with fail
  refine (heldWhole_any rn Ag rs.length cg _ 1 _ (Nat.le_refl _) (by omega) (by omega) hmk).mono ?_
  rintro e w11 ⟨rfl, hb⟩
  replace h := Below.step h hb
  replace hxw := hxw.kept hb
  replace hxg := hxg.kept hb
  replace hxh := hxh.kept hb
  replace how := how.kept hb
  replace hoh := hoh.kept hb
  replace hmk := hmk.kept hb
  clear hb kaw kbw klw kag kbg klg kah kbh klh
  go_wp2
  go_ret
  exact ⟨rfl, h⟩

set_option maxHeartbeats 1000000 in
theorem lawParseWhole_big (s0 : ByteArray) (w : World) (_hs0 : s0.size ≤ maxLen) (hsz : 1048576 < s0.size) :
    Calls Try.prog 3 #[.string s0] w fun e w' => e = .returned (.bool true) ∧ Below w.heap.size w w' := by
  have h : (1048576 : Int) < (s0.size : Int) := by omega
  have h0 := Below.refl w.heap.size w
  go_enter Try.func3, Try.ntmps3
  go_wp2_with fail
  go_ret
  exact ⟨rfl, h0⟩
end Go.Proofs.Ytllbbfkgobhcgaa
