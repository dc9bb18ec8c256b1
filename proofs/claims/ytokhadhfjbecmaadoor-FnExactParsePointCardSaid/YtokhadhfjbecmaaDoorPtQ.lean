/- The program's commonDivisor and isPlace, which only draw (written by wip/gen/ptq.py). -/
import Derived.Test.YtokhadhfjbecmaaDoorPtG
import Derived.Deep.RegionHeld3
import Derived.Deep.DeepCutAuto
import Derived.BigQuiet
namespace Go.Proofs.YtokhadhfjbecmaaDoor
open Go.RowKit Go.Joins

def GivesQ (w : World) (v : Value) (e : Ending) (w' : World) : Prop := e = .returned v ∧ ∃ m, w' = w.drewN m
theorem drewN_one (w : World) (m : Nat) : (w.drewN m).drew = w.drewN (m + 1) := by
  have := World.drewN_drewN w m 1
  exact this
set_option maxHeartbeats 800000 in
theorem commonDivisor_q (x y : Nat) (w : World) (hx : x ≤ 9223372036854775807) (hy : y ≤ 9223372036854775807) (G : Nat) (hG : Nat.gcd x y = G) :
    Calls Tryd.prog 46 #[.int .i64 (x : Int), .int .i64 (y : Int)] w (GivesQ w (.int .i64 (G : Int))) := by
  have hG' := Lib.hid hG
  clear hG
  go_enter Tryd.func46, Tryd.ntmps46
  go_wp2_with fail
  go_loopw [0, 1] (fun p q wr => ∃ a b : Nat, a ≤ 9223372036854775807 ∧ b ≤ 9223372036854775807 ∧ p = .int .i64 a ∧ q = .int .i64 b ∧ Hid (Nat.gcd a b = G) ∧ ∃ m, wr = w.drewN m) (fun _ q _ => (intOf q).toNat)
  case atStart => exact ⟨x, y, hx, hy, rfl, rfl, hG'.out, 0, rfl⟩
  case round =>
    obtain ⟨a, b, ha, hb, rfl, rfl, hg, m, hm⟩ := hrel
    clear hG'
    by_cases h0 : 0 < b
    · have hlt : a % b < b := Nat.mod_lt _ h0
      have hg2 : Hid (Nat.gcd b (a % b) = G) := (gcd_turn a b).trans hg.out
      have e0 : ((b : Int) != 0) = true := by rw [bne_iff_ne]; omega
      have e1 : ((b : Int) == 0) = false := beq_eq_false_iff_ne.2 (by omega)
      have hm2 := Lib.hid hm
      clear hm
      go_wp2
      go_region
      all_goals go_wp2
      all_goals go_roundw
      all_goals (first | (refine ⟨b, a % b, hb, by omega, rfl, by simp, hg2, ?_⟩; rw [hm2.out]; first | exact ⟨m, rfl⟩ | exact ⟨m + 1, drewN_one _ _⟩ | exact ⟨m + _, World.drewN_drewN _ _ _⟩) | (simp [intOf]; omega))
    · have hb0 : b = 0 := by omega
      subst hb0
      have hga : Hid (a = G) := by have := hg.out; rw [Nat.gcd_zero_right] at this; exact this
      have hm2 := Lib.hid hm
      clear hg h0 hm
      go_wp2
      go_ret
      exact ⟨by rw [hga.out]; rfl, m, hm2.out⟩
theorem gcdI_q (x e : Int) (w : World) (hx : -4000000000000000000 ≤ x ∧ x ≤ 4000000000000000000) (he : 0 ≤ e ∧ e ≤ 4000000000000000000) (G : Nat) (hG : Nat.gcd x.natAbs e.natAbs = G) :
    Calls Tryd.prog 46 #[.int .i64 ((x.natAbs : Nat) : Int), .int .i64 e] w (GivesQ w (.int .i64 (G : Int))) := by
  have := commonDivisor_q x.natAbs e.natAbs w (by omega) (by omega) G hG
  rw [show ((e.natAbs : Nat) : Int) = e from by omega] at this
  exact this

set_option maxHeartbeats 1000000 in
theorem placeQ_x1 (x e : Int) (w : World) (g : x < -10000) : Calls Tryd.prog 26 #[.int .i64 x, .int .i64 e] w (GivesQ w (.bool false)) := by
  have h := Below.refl w.heap.size w
  go_enter Tryd.func26, Tryd.ntmps26
  go_wp2_with fail
  go_ret
  exact ⟨rfl, 0, rfl⟩


set_option maxHeartbeats 1000000 in
theorem placeQ_x2 (x e : Int) (w : World) (h1 : -10000 ≤ x) (g : 10000 < x) : Calls Tryd.prog 26 #[.int .i64 x, .int .i64 e] w (GivesQ w (.bool false)) := by
  have h := Below.refl w.heap.size w
  go_enter Tryd.func26, Tryd.ntmps26
  go_wp2_with fail
  go_ret
  exact ⟨rfl, 0, rfl⟩


set_option maxHeartbeats 1000000 in
theorem placeQ_e1 (x e : Int) (w : World) (h1 : -10000 ≤ x) (h2 : x ≤ 10000) (g : e < 1) : Calls Tryd.prog 26 #[.int .i64 x, .int .i64 e] w (GivesQ w (.bool false)) := by
  have h := Below.refl w.heap.size w
  go_enter Tryd.func26, Tryd.ntmps26
  go_wp2_with fail
  go_ret
  exact ⟨rfl, 0, rfl⟩


set_option maxHeartbeats 1000000 in
theorem placeQ_e2 (x e : Int) (w : World) (h1 : -10000 ≤ x) (h2 : x ≤ 10000) (h3 : 1 ≤ e) (g : 20 < e) : Calls Tryd.prog 26 #[.int .i64 x, .int .i64 e] w (GivesQ w (.bool false)) := by
  have h := Below.refl w.heap.size w
  go_enter Tryd.func26, Tryd.ntmps26
  go_wp2_with fail
  go_ret
  exact ⟨rfl, 0, rfl⟩


set_option maxHeartbeats 1000000 in
theorem placeQ_ok (x e : Int) (w : World) (h1 : -10000 ≤ x) (h2 : x ≤ 10000) (h3 : 1 ≤ e) (h4 : e ≤ 20) (G : Nat) (hG : Nat.gcd x.natAbs e.natAbs = G) (ok : Bool) (hok : ok = decide (G = 1)) : Calls Tryd.prog 26 #[.int .i64 x, .int .i64 e] w (GivesQ w (.bool ok)) := by
  have c2 := fun W => gcdI_q x e W (by omega) (by omega) G hG
  replace c2 := Lib.hid c2
  clear hG
  have e4 : (((G : Nat) : Int) == 1) = ok := by rw [hok, Bool.eq_iff_iff, beq_iff_eq, decide_eq_true_eq]; omega
  replace e4 := Lib.hid e4
  clear hok
  have h := Below.refl w.heap.size w
  go_enter Tryd.func26, Tryd.ntmps26
  go_wp2_with fail
  refine (c2.out _).mono ?_
  rintro e w1 ⟨rfl, m, hm⟩
  replace hm := Lib.hid hm
  go_wp2_with fail
  rw [e4.out]
  go_ret
  exact ⟨rfl, m, hm.out⟩


theorem place_q (x e : Int) (w : World) : Calls Tryd.prog 26 #[.int .i64 x, .int .i64 e] w (GivesQ w (.bool (decide (Plc x e)))) := by
  by_cases h1 : -10000 ≤ x
  · by_cases h2 : x ≤ 10000
    · by_cases h3 : 1 ≤ e
      · by_cases h4 : e ≤ 20
        · exact placeQ_ok x e w h1 h2 h3 h4 _ rfl _ (decide_eq_decide.2 ⟨fun h => h.2.2, fun h => ⟨⟨h1, h2⟩, ⟨h3, h4⟩, h⟩⟩)
        · rw [decide_eq_false fun h => h4 h.2.1.2]; exact placeQ_e2 x e w h1 h2 h3 (by omega)
      · rw [decide_eq_false fun h => h3 h.2.1.1]; exact placeQ_e1 x e w h1 h2 (by omega)
    · rw [decide_eq_false fun h => h2 h.1.2]; exact placeQ_x2 x e w h1 (by omega)
  · rw [decide_eq_false fun h => h1 h.1.1]; exact placeQ_x1 x e w (by omega)
end Go.Proofs.YtokhadhfjbecmaaDoor
