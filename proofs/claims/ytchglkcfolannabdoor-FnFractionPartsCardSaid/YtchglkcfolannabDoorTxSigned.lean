/- The program's readSigned. -/
import Derived.Test.YtchglkcfolannabDoorTxRead
namespace Go.Proofs.YtchglkcfolannabDoor
open Go.RowKit Go.Joins

theorem width_pos (s : ByteArray) (pos : Nat) (h : pos < s.size) : 1 ≤ (Utf8.decode s pos).2 := by
  by_cases ha : (s[pos]'h).toNat < 128
  · rw [decode_ascii s pos h ha]
    exact Nat.le_refl _
  · exact (decode_high s pos h (by omega)).2

/-- One letter more. -/
def rdStep (acc : Int) (d : Nat) : Int := wrap64 (wrap64 (10 * acc) + ((d : Int) - 48))
/-- The letters from pos on. -/
def rdN (t : ByteArray) : Nat → Nat → Int → Int
  | 0, _, acc => acc
  | b + 1, pos, acc => if pos < t.size then rdN t b (pos + (Utf8.decode t pos).2) (rdStep acc (Utf8.decode t pos).1) else acc
theorem rdN_end (t : ByteArray) (b pos : Nat) (acc : Int) (h : ¬ pos < t.size) : rdN t b pos acc = acc := by
  cases b with
  | zero => rfl
  | succ b => simp [rdN, h]
theorem wrap64_bd (z : Int) : -9223372036854775808 ≤ wrap64 z ∧ wrap64 z ≤ 9223372036854775807 := by unfold wrap64; omega

set_option maxHeartbeats 2000000 in
theorem readSigned_go (s t : ByteArray) (neg : Bool) (V Z : Int) (w : World) (ht : t = ⟨(Lib.trimPrefix s.data.toList [45]).toArray⟩) (hn : neg = Lib.hasPrefix s.data.toList [45]) (hV : rdN t t.size 0 0 = V) (hZ : (if neg then wrap64 (-V) else V) = Z) :
    Calls Tryd.prog 50 #[.string s] w fun e w' => e = .returned (.int .i64 Z) ∧ Below w.heap.size w w' := by
  have c := fun W => (Tryd.strings_CutPrefix s ⟨#[45]⟩ W).mono fun _ _ ⟨a, b⟩ => (⟨a, b.symm⟩ : _ ∧ W = _)
  have e45 : (⟨#[45]⟩ : ByteArray).data.toList = [45] := rfl
  rw [e45, ← ht, ← hn] at c
  replace c := Lib.hid c
  replace hV := Lib.hid hV
  clear ht hn e45
  go_enter Tryd.func50, Tryd.ntmps50
  go_wp2_with fail
  refine (c.out _).mono ?_
  rintro e w9 ⟨rfl, rfl⟩
  clear c
  go_wp2_with fail
  go_loopw [5] (fun n wr => ∃ (pos b : Nat) (acc : Int), wr = w.iter t pos ∧ n = .int .i64 acc ∧ Hid (rdN t b pos acc = V) ∧ t.size ≤ pos + b) (fun _ wr => t.size - wr.iterPos w.heap.size)
  case atStart => exact ⟨0, t.size, 0, rfl, rfl, hV, by omega⟩
  case round =>
    obtain ⟨pos, b, acc, rfl, rfl, hc, hb⟩ := hrel
    by_cases hp : pos < t.size
    · have hnx : ∀ ty, (Instr.next (.pointer (some ⟨w.heap.size, 0, none⟩)) true ty).run Tryd.prog (w.iter t pos) = _ := fun ty => run_next_any w t pos ty hp
      have hwd := width_pos t pos hp
      have hdl := decode_le t pos
      have hc2 : Hid (rdN t (b - 1) (pos + (Utf8.decode t pos).2) (rdStep acc (Utf8.decode t pos).1) = V) := by
        have h1 := hc.out
        rcases b with _ | b
        · omega
        · rw [rdN, if_pos hp] at h1
          exact h1
      clear hV hZ
      go_wp2_with fail
      go_roundw
      case rel =>
        exact ⟨pos + (Utf8.decode t pos).2, b - 1, rdStep acc (Utf8.decode t pos).1, rfl, rfl, hc2, by omega⟩
      case measure =>
        simp
        omega
    · have hnx : ∀ ty, (Instr.next (.pointer (some ⟨w.heap.size, 0, none⟩)) true ty).run Tryd.prog (w.iter t pos) = _ := fun ty => run_next_end w t pos ty hp
      have hV2 : acc = V := by rw [← hc.out]; exact (rdN_end t b pos acc hp).symm
      subst hV2
      have hbe : Below w.heap.size w (w.iter t pos) := below_alloc1 w (.stringIter t pos)
      cases neg
      · obtain rfl : acc = Z := by simpa using hZ
        clear hV hc
        go_wp2_with fail
        go_ret
        exact ⟨rfl, hbe⟩
      · have hZ' : wrap64 (-acc) = Z := by simpa using hZ
        replace hZ' := Lib.hid hZ'
        clear hV hc hZ
        go_wp2_with fail
        go_ret
        exact ⟨by rw [← hZ'.out]; rfl, hbe⟩

theorem rdN_bd (t : ByteArray) : ∀ (b pos : Nat) (acc : Int), -9223372036854775808 ≤ acc → acc ≤ 9223372036854775807 → -9223372036854775808 ≤ rdN t b pos acc ∧ rdN t b pos acc ≤ 9223372036854775807
  | 0, _, acc, h0, h1 => ⟨h0, h1⟩
  | b + 1, pos, acc, h0, h1 => by
    rw [rdN]
    split
    · exact rdN_bd t b _ _ (wrap64_bd _).1 (wrap64_bd _).2
    · exact ⟨h0, h1⟩

/-- Any text is read as some number. -/
theorem readSigned_some (s : ByteArray) : ∃ z : Int, -9223372036854775808 ≤ z ∧ z ≤ 9223372036854775807 ∧ ∀ w : World, Calls Tryd.prog 50 #[.string s] w fun e w' => e = .returned (.int .i64 z) ∧ Below w.heap.size w w' := by
  obtain ⟨t, ht⟩ : ∃ t : ByteArray, t = ⟨(Lib.trimPrefix s.data.toList [45]).toArray⟩ := ⟨_, rfl⟩
  have h := rdN_bd t t.size 0 0 (by omega) (by omega)
  refine ⟨if Lib.hasPrefix s.data.toList [45] then wrap64 (-(rdN t t.size 0 0)) else rdN t t.size 0 0, ?_, ?_, fun w => readSigned_go s t _ _ _ w ht rfl rfl rfl⟩
  · split
    · exact (wrap64_bd _).1
    · exact h.1
  · split
    · exact (wrap64_bd _).2
    · exact h.2
end Go.Proofs.YtchglkcfolannabDoor
