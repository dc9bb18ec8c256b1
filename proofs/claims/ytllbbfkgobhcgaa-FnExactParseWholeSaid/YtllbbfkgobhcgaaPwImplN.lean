/- The program's ParseWhole: 0, and what it refuses. -/
import Derived.Test.YtllbbfkgobhcgaaPwIpd
namespace Go.Proofs.Ytllbbfkgobhcgaa
open Go.RowKit Go.Joins

set_option maxHeartbeats 1000000 in
theorem ipd_empty (w : World) :
    Calls Try.prog 14 #[.string ⟨#[]⟩] w fun e w' => e = .returned (.bool false) ∧ Below w.heap.size w w' := by
  have hnx : ∀ ty, (Instr.next (.pointer (some ⟨w.heap.size, 0, none⟩)) true ty).run Try.prog (w.iter ⟨#[]⟩ 0) = _ := fun ty => run_next_end w ⟨#[]⟩ 0 ty (by decide)
  have hbe : Below w.heap.size w (w.iter ⟨#[]⟩ 0) := below_alloc1 w (.stringIter ⟨#[]⟩ 0)
  go_enter Try.func14, Try.ntmps14
  go_wp2_with fail
  go_loopw [2] (fun n wr => wr = w.iter ⟨#[]⟩ 0 ∧ n = .bool false) (fun _ _ => 0)
  case atStart => exact ⟨rfl, rfl⟩
  case round =>
    obtain ⟨rfl, rfl⟩ := hrel
    go_wp2_with fail
    go_ret
    exact ⟨rfl, hbe⟩

set_option maxHeartbeats 1000000 in
theorem pwI_zero (s : ByteArray) (w : World) (ng : Bool) (hcut : ∀ W : World, Calls Try.prog 13 #[.string s, .string ⟨#[45]⟩] W fun e w' => e = .returned (.tuple #[.string ⟨#[48]⟩, .bool ng]) ∧ W = w') :
    Calls Try.prog 5 #[.string s] w (GivesWholeOk w false [] (!ng)) := by
  replace hcut := Lib.hid hcut
  have hb0 := below_alloc1 w (.cells #[.bool false, .slice none 0 0] 24)
  go_enter Try.func5, Try.ntmps5
  go_wp2_with fail
  refine (hcut.out _).mono ?_
  rintro e w1 ⟨rfl, rfl⟩
  go_wp2_with fail
  refine bodyPost_ret (v := .tuple #[.agg #[.bool false, .slice none 0 0], .bool (!ng)]) (by simp [results, Try.results5, go_sem]) rfl ⟨none, 0, rfl, World.ownsRow_nil _ _ _ _, hb0⟩

set_option maxHeartbeats 1000000 in
theorem pwI_long (s t : ByteArray) (w : World) (ng : Bool) (hcut : ∀ W : World, Calls Try.prog 13 #[.string s, .string ⟨#[45]⟩] W fun e w' => e = .returned (.tuple #[.string t, .bool ng]) ∧ W = w') (hz1 : (t.toList == [48]) = false) (hl : 1600 < t.size) :
    Calls Try.prog 5 #[.string s] w (GivesWholeOk w false [] false) := by
  replace hcut := Lib.hid hcut
  have ha : 1600 < (t.size : Int) := by omega
  have hb0 := below_alloc1 w (.cells #[.bool false, .slice none 0 0] 24)
  go_enter Try.func5, Try.ntmps5
  go_wp2_with fail
  refine (hcut.out _).mono ?_
  rintro e w1 ⟨rfl, rfl⟩
  go_wp2_with fail
  refine bodyPost_ret (v := .tuple #[.agg #[.bool false, .slice none 0 0], .bool false]) (by simp [results, Try.results5, go_sem]) rfl ⟨none, 0, rfl, World.ownsRow_nil _ _ _ _, hb0⟩

set_option maxHeartbeats 1000000 in
theorem pwI_bad (s t : ByteArray) (w : World) (ng : Bool) (hcut : ∀ W : World, Calls Try.prog 13 #[.string s, .string ⟨#[45]⟩] W fun e w' => e = .returned (.tuple #[.string t, .bool ng]) ∧ W = w') (hz1 : (t.toList == [48]) = false) (hl : t.size ≤ 1600)
    (cI : ∀ W : World, Calls Try.prog 14 #[.string t] W fun e w' => e = .returned (.bool false) ∧ Below W.heap.size W w') :
    Calls Try.prog 5 #[.string s] w (GivesWholeOk w false [] false) := by
  replace hcut := Lib.hid hcut
  replace cI := Lib.hid cI
  have ha : ¬ 1600 < (t.size : Int) := by omega
  have hb0 := below_alloc1 w (.cells #[.bool false, .slice none 0 0] 24)
  have hx0 := Box.new w 24 #[.bool false, .slice none 0 0]
  go_enter Try.func5, Try.ntmps5
  go_wp2_with fail
  refine (hcut.out _).mono ?_
  rintro e w1 ⟨rfl, rfl⟩
  go_wp2_with fail
  refine (cI.out _).mono ?_
  rintro e w1 ⟨rfl, hb⟩
  have hb1 := Below.step hb0 hb
  have hx1 := hx0.kept hb
  clear hb hb0 hx0
  obtain ⟨k0, k1⟩ := hx1.two
  have k2 := hx1.free 0
  have k3 := hx1.free 1
  have hsz := hx1.lt
  go_wp2_with fail
  refine bodyPost_ret (v := .tuple #[.agg #[.bool false, .slice none 0 0], .bool false]) (by simp [results, Try.results5, go_sem, k0, k1]) rfl ⟨none, 0, rfl, World.ownsRow_nil _ _ _ _, ?_⟩
  exact (hb1.setCell (by simp) _).setCell (by simp) _
end Go.Proofs.Ytllbbfkgobhcgaa
