/- The core of the law of WholeText (written by wip/gen/lawgen.py): it answers true if the model and the program hand back the same. -/
import Derived.Test.YtllbbfkgobhcgaaDoorWtWhole
import Derived.Test.YtllbbfkgobhcgaaDoorWtImpl
import Derived.Deep.RegionHeld3
import Derived.Deep.DeepCutAuto
namespace Go.Proofs.YtllbbfkgobhcgaaDoor
open Go.RowKit Go.Joins

set_option maxHeartbeats 4000000 in
set_option maxRecDepth 100000 in
theorem lawWholeText_core (neg0 : Bool) (A0 : Option Addr) (n0 c0 : Nat) (xs0 : List Int) (w : World) (hm0 : n0 ≤ 9223372036854775807) (hr0 : Rd w w.heap.size A0 n0 xs0) (rt : ByteArray) (ok : Bool)
    (hS : xs0.length ≤ 1048576 → ∀ (A0 : Option Addr) (c0 : Nat) (w : World), Rd w w.heap.size A0 xs0.length xs0 → xs0.length ≤ c0 → Calls Tryd.prog 5 #[.agg #[.bool neg0, .slice A0 xs0.length c0]] w (GivesSB w rt ok))
    (hp : Pow w) (hI : xs0.length ≤ 1048576 → ∀ (A0 : Option Addr) (c0 : Nat) (w : World), Pow w → Rd w w.heap.size A0 xs0.length xs0 → xs0.length ≤ c0 → Calls Tryd.prog 7 #[.agg #[.bool neg0, .slice A0 xs0.length c0]] w (GivesSB w rt ok)) :
    Calls Tryd.prog 3 #[.agg #[.bool neg0, .slice A0 n0 c0]] w fun e w' => e = .returned (.bool true) ∧ Below w.heap.size w w' := by
  have h := Below.refl w.heap.size w
  have hA := below_alloc1 w (.cells #[.bool neg0, .slice A0 n0 c0] 24)
  replace h := Below.step h hA
  have hxa0 := Box.new w 24 #[.bool neg0, .slice A0 n0 c0]
  clear hA
  by_cases hbig0 : 1048576 < (n0 : Int)
  · clear hS hI
    go_enter Tryd.func3, Tryd.ntmps3
    go_wp2_with fail
    have hz := szWhole_any neg0 A0 n0 c0 (1048576) (w.alloc (.cells #[.bool neg0, .slice A0 n0 c0] 24)) hm0 (by omega) (by omega)
    rw [if_pos (by omega)] at hz
    replace hz := Lib.hid hz
    refine (hz.out).mono ?_
    rintro e w1 ⟨rfl, hb⟩
    replace h := Below.step h hb
    replace hxa0 := hxa0.kept hb
    clear hb
    clear hz
    go_wp2
    go_ret
    exact ⟨rfl, h⟩
  have hlen0 : xs0.length ≤ 1048576 := by rw [hr0.1]; omega
  replace hS := Lib.hid (hS hlen0)
  replace hI := Lib.hid (hI hlen0)
  have e0 : (ok != ok) = false := by simp
  go_enter Tryd.func3, Tryd.ntmps3
  go_wp2_with fail
  have hz := szWhole_any neg0 A0 n0 c0 (1048576) (w.alloc (.cells #[.bool neg0, .slice A0 n0 c0] 24)) hm0 (by omega) (by omega)
  rw [if_neg (by omega)] at hz
  replace hz := Lib.hid hz
  refine (hz.out).mono ?_
  rintro e w1 ⟨rfl, hb⟩
  replace h := Below.step h hb
  replace hxa0 := hxa0.kept hb
  clear hb
  clear hz
  obtain ⟨kaa0, kba0⟩ := hxa0.two
  have kla0 := hxa0.lt
  obtain ⟨ga0, hga0⟩ : ∃ g, g = w.heap.size := ⟨_, rfl⟩
  rw [← hga0] at hxa0 kaa0 kba0 kla0 ⊢
  clear hga0
  go_wp2_with fail
  have lo_hos0 := h.size
  refine (toWhole_any neg0 A0 n0 c0 xs0 _ (by omega) (hr0.kept h)).mono ?_
  rintro e w2 ⟨As0, cs0, rfl, hos0, hb⟩
  replace hos0 := hos0.I
  replace h := Below.step h hb
  replace hxa0 := hxa0.kept hb
  clear hb kaa0 kba0 kla0
  obtain ⟨kaa0, kba0⟩ := hxa0.two
  have kla0 := hxa0.lt
  go_wp2_with fail
  refine (hS.out As0 cs0 _ hos0.rd hos0.own.cap).mono ?_
  rintro e w3 ⟨rfl, hb⟩
  replace h := Below.step h hb
  replace hxa0 := hxa0.kept hb
  replace hos0 := hos0.kept hb
  clear hb kaa0 kba0 kla0
  clear hos0
  obtain ⟨kaa0, kba0⟩ := hxa0.two
  have kla0 := hxa0.lt
  go_wp2_with fail
  have lo_hox0 := h.size
  refine (toWhole_any neg0 A0 n0 c0 xs0 _ (by omega) (hr0.kept h)).mono ?_
  rintro e w4 ⟨Ax0, cx0, rfl, hox0, hb⟩
  replace hox0 := hox0.I
  replace h := Below.step h hb
  replace hxa0 := hxa0.kept hb
  clear hb kaa0 kba0 kla0
  obtain ⟨kaa0, kba0⟩ := hxa0.two
  have kla0 := hxa0.lt
  go_wp2_with fail
  have hA := below_alloc1 w4 (.cells #[.bool neg0, .slice Ax0 xs0.length cx0] 28)
  have hxx0 := Box.new w4 28 #[.bool neg0, .slice Ax0 xs0.length cx0]
  replace h := Below.step h hA
  replace hxa0 := hxa0.kept hA
  replace hox0 := hox0.kept hA
  clear hA kaa0 kba0 kla0
  generalize w4.alloc (.cells #[.bool neg0, .slice Ax0 xs0.length cx0] 28) = w5 at *
  generalize w4.heap.size = gx0 at hxx0 ⊢
  refine (hI.out Ax0 cx0 _ (hp.kept h) hox0.rd hox0.own.cap).mono ?_
  rintro e w6 ⟨rfl, hb⟩
  replace h := Below.step h hb
  replace hxa0 := hxa0.kept hb
  replace hxx0 := hxx0.kept hb
  replace hox0 := hox0.kept hb
  clear hb
  obtain ⟨kaa0, kba0⟩ := hxa0.two
  have kla0 := hxa0.lt
  obtain ⟨kax0, kbx0⟩ := hxx0.two
  have klx0 := hxx0.lt
  go_wp2_with fail
  go_region_held3 (fun w' => w'.cell? ⟨gx0, 0, none⟩ = some (.bool neg0) ∧ w'.cell? ⟨gx0, 1, none⟩ = some (.slice Ax0 xs0.length cx0) ∧ w'.cell? ⟨ga0, 0, none⟩ = some (.bool neg0) ∧ w'.cell? ⟨ga0, 1, none⟩ = some (.slice A0 n0 c0)) ((refine ⟨?_, ?_, ?_, ?_⟩ <;> assumption))
    (first
      | (go_at_call 6; refine (toWhole_any neg0 A0 n0 c0 xs0 _ (by omega) (by have hrr := hr0.kept h; exact hrr)).mono ?_; rintro e w' ⟨A8, c8, rfl, ho8, hb⟩; have hq : Below w6.heap.size w6 w' := ⟨hb.os, hb.tape, hb.output, hb.size, hb.block⟩; obtain ⟨q1, q2⟩ := (hxx0.kept hq).two; obtain ⟨q3, q4⟩ := (hxa0.kept hq).two)
      | (go_at_call 8; refine (eqWhole_yes neg0 Ax0 _ _ cx0 _ _ xs0 _ (by omega) (by exact (hox0.kept hq).rd) (by exact ho8.rd)).mono ?_; rintro e w7 ⟨rfl, hb9⟩; have hb : Below w6.heap.size w6 w7 := Below.step hq ⟨hb9.os, hb9.tape, hb9.output, hb9.size, hb9.block⟩; obtain ⟨q5, q6⟩ := (hxx0.kept hb).two; obtain ⟨q7, q8⟩ := (hxa0.kept hb).two))
  replace h := Below.step h hb
  replace hxa0 := hxa0.kept hb
  replace hxx0 := hxx0.kept hb
  replace hox0 := hox0.kept hb
  clear hb kaa0 kba0 kla0 kax0 kbx0 klx0
  clear hq hb9 q1 q2 q3 q4 q5 q6 q7 q8 ho8
  go_wp2
  go_ret
  exact ⟨rfl, h⟩

theorem textS_any (neg : Bool) (xs : List Int) : ∃ (rt : ByteArray) (ok : Bool), (xs.length ≤ 1048576 → ∀ (A : Option Addr) (c : Nat) (w : World), Rd w w.heap.size A xs.length xs → xs.length ≤ c → Calls Tryd.prog 5 #[.agg #[.bool neg, .slice A xs.length c]] w (GivesSB w rt ok)) ∧
    (xs.length ≤ 1048576 → ∀ (A : Option Addr) (c : Nat) (w : World), Pow w → Rd w w.heap.size A xs.length xs → xs.length ≤ c → Calls Tryd.prog 7 #[.agg #[.bool neg, .slice A xs.length c]] w (GivesSB w rt ok)) := by
  by_cases hg : Good neg xs
  · refine ⟨txW neg xs, true, fun _ A c w h _ => textS_yes neg A xs.length c xs w h hg, fun _ A c w hp h _ => ?_⟩
    by_cases hn : xs.length = 0
    · have e : txW neg xs = ⟨#[48]⟩ := by unfold txW; rw [if_pos hn]
      rw [e]
      rw [hn] at h ⊢
      exact textI_zero neg A c xs w h hg
    · have e : txW neg xs = signB neg ++ tx xs (xs.length - 1) := by unfold txW; rw [if_neg hn]
      rw [e]
      exact textI_pos neg A xs.length c xs w hp (by omega) hg.1 h hg
  · exact ⟨⟨#[]⟩, false, fun h0 A c w h _ => textS_no neg A xs.length c xs w (by omega) h hg, fun h0 A c w _ h _ => textI_no neg A xs.length c xs w (by omega) h hg⟩

theorem lawWholeText_any (neg0 : Bool) (A0 : Option Addr) (n0 c0 : Nat) (xs0 : List Int) (w : World) (hp : Pow w) (hm0 : n0 ≤ 9223372036854775807) (hr0 : Rd w w.heap.size A0 n0 xs0) :
    Calls Tryd.prog 3 #[.agg #[.bool neg0, .slice A0 n0 c0]] w fun e w' => e = .returned (.bool true) ∧ Below w.heap.size w w' := by
  obtain ⟨rt, ok, hS, hI⟩ := textS_any neg0 xs0
  exact lawWholeText_core neg0 A0 n0 c0 xs0 w hm0 hr0 rt ok hS hp hI
end Go.Proofs.YtllbbfkgobhcgaaDoor
