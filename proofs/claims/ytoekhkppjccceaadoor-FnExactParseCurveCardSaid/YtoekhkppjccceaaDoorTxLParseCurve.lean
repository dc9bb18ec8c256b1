/- The core of the law of ParseCurve (written by wip/gen/frlaw.py): it answers true if the model and the program hand back the same. -/
import Derived.Test.YtoekhkppjccceaaDoorEcLaw0
import Derived.Test.YtoekhkppjccceaaDoorTxParseI
import Derived.Deep.RegionHeld3
import Derived.Deep.DeepCutAuto
namespace Go.Proofs.YtoekhkppjccceaaDoor
open Go.RowKit Go.Joins

set_option maxHeartbeats 4000000 in
set_option maxRecDepth 100000 in
theorem lawParseCurve_core (s0 : ByteArray) (hs0 : s0.size ≤ maxLen) (w : World) (hL : EnvC w) (hsz : s0.size ≤ 1048576) (rp rq : Int) (b0 : Bool)
    (hS : ∀ W : World, Calls Tryd.prog 8 #[.string s0] W (GivesFB W rp rq b0))
    (hI : ∀ W : World, EnvC W → Calls Tryd.prog 9 #[.string s0] W (GivesFB W rp rq b0)) :
    Calls Tryd.prog 4 #[.string s0] w fun e w' => e = .returned (.bool true) ∧ Below w.heap.size w w' := by
  unfold maxLen at hs0
  replace hS := Lib.hid hS
  replace hI := Lib.hid hI
  have eb0 : (b0 != b0) = false := by simp
  have hz1 : ¬ (1048576 : Int) < (s0.size : Int) := by omega
  have h := Below.refl w.heap.size w
  go_enter Tryd.func4, Tryd.ntmps4
  go_wp2_with fail
  refine (hS.out _).mono ?_
  rintro e w1 ⟨rfl, hb⟩
  replace h := Below.step h hb
  clear hb
  go_wp2_with fail
  have hA := below_alloc1 w1 (.cells #[.int .i64 rp, .int .i64 rq] 26)
  have hxw := Box.new w1 26 #[.int .i64 rp, .int .i64 rq]
  replace h := Below.step h hA
  clear hA
  generalize w1.alloc (.cells #[.int .i64 rp, .int .i64 rq] 26) = w2 at *
  generalize w1.heap.size = gw at hxw ⊢
  obtain ⟨kaw, kbw⟩ := hxw.two
  have klw := hxw.lt
  go_wp2_with fail
  refine (hI.out _ (by exact hL.kept h)).mono ?_
  rintro e w3 ⟨rfl, hb⟩
  replace h := Below.step h hb
  replace hxw := hxw.kept hb
  clear hb kaw kbw klw
  obtain ⟨kaw, kbw⟩ := hxw.two
  have klw := hxw.lt
  go_wp2_with fail
  have hA := below_alloc1 w3 (.cells #[.int .i64 rp, .int .i64 rq] 26)
  have hxg := Box.new w3 26 #[.int .i64 rp, .int .i64 rq]
  replace h := Below.step h hA
  replace hxw := hxw.kept hA
  clear hA kaw kbw klw
  generalize w3.alloc (.cells #[.int .i64 rp, .int .i64 rq] 26) = w4 at *
  generalize w3.heap.size = gg at hxg ⊢
  obtain ⟨kaw, kbw⟩ := hxw.two
  have klw := hxw.lt
  obtain ⟨kag, kbg⟩ := hxg.two
  have klg := hxg.lt
  go_wp2_with fail
  refine (eqCurve_yes rp rq _).mono ?_
  rintro e w5 ⟨rfl, hb⟩
  replace h := Below.step h hb
  replace hxw := hxw.kept hb
  replace hxg := hxg.kept hb
  clear hb kaw kbw klw kag kbg klg
  go_wp2
  go_ret
  exact ⟨rfl, h⟩
set_option maxHeartbeats 1000000 in
theorem lawParseCurve_big (s0 : ByteArray) (w : World) (hs0 : s0.size ≤ maxLen) (hsz : 1048576 < s0.size) :
    Calls Tryd.prog 4 #[.string s0] w fun e w' => e = .returned (.bool true) ∧ Below w.heap.size w w' := by
  unfold maxLen at hs0
  have hz1 : (1048576 : Int) < (s0.size : Int) := by omega
  go_enter Tryd.func4, Tryd.ntmps4
  go_wp2
  go_ret
  exact ⟨rfl, Below.refl _ _⟩
end Go.Proofs.YtoekhkppjccceaaDoor
