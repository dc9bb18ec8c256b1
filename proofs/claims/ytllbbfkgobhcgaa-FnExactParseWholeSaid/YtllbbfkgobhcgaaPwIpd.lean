/- The program's isPositiveDecimal. -/
import Derived.Test.YtllbbfkgobhcgaaPwMath
import Derived.Test.YtllbbfkgobhcgaaPwShelf
import Derived.Laws.RangeAny
namespace Go.Proofs.Ytllbbfkgobhcgaa
open Go.RowKit Go.Joins

set_option maxHeartbeats 2000000 in
theorem ipd_bad (t : ByteArray) (w : World) (m : Nat) (hm : m < t.size) (hd : ∀ k, k < m → dig t k) (hbad : ¬ dig t m) :
    Calls Try.prog 14 #[.string t] w fun e w' => e = .returned (.bool false) ∧ Below w.heap.size w w' := by
  have hbx := hbad
  unfold dig at hbx
  rw [get_data hm] at hbx
  have hdc : ((Utf8.decode t m).1 : Int) < 48 ∨ 57 < ((Utf8.decode t m).1 : Int) := by
    by_cases ha : t[m].toNat < 128
    · rw [decode_ascii t m hm ha]; omega
    · have := (decode_high t m hm (by omega)).1; omega
  replace hd := Lib.hid hd
  clear hbx hbad
  go_enter Try.func14, Try.ntmps14
  go_wp2_with fail
  go_loopw [2] (fun n wr => ∃ (pos : Nat), wr = w.iter t pos ∧ n = .bool false ∧ pos ≤ m) (fun _ wr => t.size - wr.iterPos w.heap.size)
  case atStart => exact ⟨0, rfl, rfl, by omega⟩
  case round =>
    obtain ⟨pos, rfl, rfl, hp⟩ := hrel
    have hlt : pos < t.size := by omega
    have hnx : ∀ ty, (Instr.next (.pointer (some ⟨w.heap.size, 0, none⟩)) true ty).run Try.prog (w.iter t pos) = _ := fun ty => run_next_any w t pos ty hlt
    have hbe : Below w.heap.size w (w.iter t (pos + (Utf8.decode t pos).2)) := below_alloc1 w (.stringIter t _)
    by_cases he : pos = m
    · subst he
      rcases hdc with hlo | hhi
      · go_wp2_with fail
        go_ret
        exact ⟨rfl, hbe⟩
      · have hlo' : decide (((Utf8.decode t pos).1 : Int) < 48) = false := by simp; omega
        go_wp2_with fail
        go_ret
        exact ⟨rfl, hbe⟩
    · have hdi := hd.out pos (by omega)
      unfold dig at hdi
      rw [get_data hlt] at hdi
      obtain ⟨d1, d2⟩ := hdi
      have hdec := decode_ascii t pos hlt (by omega)
      rw [hdec] at hnx
      have d3 : 48 ≤ (t[pos].toNat : Int) := by omega
      have d4 : (t[pos].toNat : Int) ≤ 57 := by omega
      have hp1 : pos + 1 ≤ m := by omega
      clear hdc hbe hdec
      go_wp2_with fail
      go_roundw
      case rel => exact ⟨pos + 1, rfl, rfl, hp1⟩
      case measure => simp; omega

set_option maxHeartbeats 2000000 in
theorem ipd_all (t : ByteArray) (w : World) (hs : 1 ≤ t.size) (hd : ∀ k, k < t.size → dig t k) (ok : Bool) (hok : ok = !decide (t[0].toNat = 48)) :
    Calls Try.prog 14 #[.string t] w fun e w' => e = .returned (.bool ok) ∧ Below w.heap.size w w' := by
  replace hd := Lib.hid hd
  replace hok := Lib.hid hok
  have hz0 : 0 < (t.size : Int) := by omega
  go_enter Try.func14, Try.ntmps14
  go_wp2_with fail
  go_loopw [2] (fun n wr => ∃ (pos : Nat), wr = w.iter t pos ∧ n = .bool false ∧ pos ≤ t.size) (fun _ wr => t.size - wr.iterPos w.heap.size)
  case atStart => exact ⟨0, rfl, rfl, by omega⟩
  case round =>
    obtain ⟨pos, rfl, rfl, hp⟩ := hrel
    by_cases hlt : pos < t.size
    · have hnx : ∀ ty, (Instr.next (.pointer (some ⟨w.heap.size, 0, none⟩)) true ty).run Try.prog (w.iter t pos) = _ := fun ty => run_next_any w t pos ty hlt
      have hdi := hd.out pos (by omega)
      unfold dig at hdi
      rw [get_data hlt] at hdi
      obtain ⟨d1, d2⟩ := hdi
      have hdec := decode_ascii t pos hlt (by omega)
      rw [hdec] at hnx
      have d3 : 48 ≤ (t[pos].toNat : Int) := by omega
      have d4 : (t[pos].toNat : Int) ≤ 57 := by omega
      have hp1 : pos + 1 ≤ t.size := by omega
      clear hdec
      go_wp2_with fail
      go_roundw
      case rel => exact ⟨pos + 1, rfl, rfl, hp1⟩
      case measure => simp; omega
    · have hnx : ∀ ty, (Instr.next (.pointer (some ⟨w.heap.size, 0, none⟩)) true ty).run Try.prog (w.iter t pos) = _ := fun ty => run_next_end w t pos ty hlt
      have hbe : Below w.heap.size w (w.iter t pos) := below_alloc1 w (.stringIter t pos)
      have hne : t.toList.isEmpty = false := by
        rw [ByteArray.toList_eq]
        rcases e8 : t.data.toList with _ | ⟨c, l⟩
        · have e9 : t.data.toList.length = 0 := by rw [e8]; rfl
          rw [Array.length_toList] at e9
          have e10 : t.size = 0 := e9
          omega
        · rfl
      by_cases h48 : t[0].toNat = 48
      · have e48 : ((t[0].toNat : Int) != 48) = false := by rw [h48]; rfl
        have hok2 : ok = false := by rw [hok.out, h48]; rfl
        subst hok2
        replace h48 := Lib.hid h48
        clear hok hd
        go_wp2_with fail
        go_ret
        exact ⟨rfl, hbe⟩
      · have e48 : ((t[0].toNat : Int) != 48) = true := by rw [bne_iff_ne]; omega
        have hok2 : ok = true := by rw [hok.out, decide_eq_false h48]; rfl
        subst hok2
        clear hok hd h48
        go_wp2_with fail
        go_ret
        exact ⟨rfl, hbe⟩
end Go.Proofs.Ytllbbfkgobhcgaa
