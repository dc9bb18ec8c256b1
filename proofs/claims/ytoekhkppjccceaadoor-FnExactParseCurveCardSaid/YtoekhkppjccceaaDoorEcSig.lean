/- ecSigned of the model (written by wip/gen/ecsig.py). -/
import Derived.Test.YtoekhkppjccceaaDoorTxCut
import Derived.Test.YtoekhkppjccceaaDoorEcTx
namespace Go.Proofs.YtoekhkppjccceaaDoor
open Go.RowKit Go.Joins

set_option maxHeartbeats 1000000 in
theorem sgn_neg_yes (a : ByteArray) (z : Int) (w : World) (hs0 : 0 < a.size) (hc : a[0].toNat = 45) (hz0 : 0 ≤ z) (hz1 : z ≤ 999999) (c0 : ∀ w : World, Calls Tryd.prog 29 #[.string (a.extract 1 a.size)] w fun e w' => e = .returned (.int .i64 z) ∧ w = w') : Calls Tryd.prog 24 #[.string a] w (fun e w' => e = .returned (.int .i64 (-z)) ∧ w = w') := by
  have e45 : ((a[0].toNat : Int) == 45) = true := by rw [hc]; rfl
  have ha1 : 1 ≤ (a.size : Int) := by omega
  replace hc := Lib.hid hc
  replace c0 := Lib.hid c0
  go_enter Tryd.func24, Tryd.ntmps24
  go_wp2_with fail
  refine (c0.out _).mono ?_
  rintro e w1 ⟨rfl, rfl⟩
  go_wp2_with fail
  go_ret
  exact ⟨rfl, rfl⟩


set_option maxHeartbeats 1000000 in
theorem sgn_neg_no (a : ByteArray) (z : Int) (w : World) (hs0 : 0 < a.size) (hc : a[0].toNat = 45) (hz0 : z < 0) (c0 : ∀ w : World, Calls Tryd.prog 29 #[.string (a.extract 1 a.size)] w fun e w' => e = .returned (.int .i64 z) ∧ w = w') : Calls Tryd.prog 24 #[.string a] w (fun e w' => e = .returned (.int .i64 (100000)) ∧ w = w') := by
  have e45 : ((a[0].toNat : Int) == 45) = true := by rw [hc]; rfl
  have ha1 : 1 ≤ (a.size : Int) := by omega
  replace hc := Lib.hid hc
  replace c0 := Lib.hid c0
  go_enter Tryd.func24, Tryd.ntmps24
  go_wp2_with fail
  refine (c0.out _).mono ?_
  rintro e w1 ⟨rfl, rfl⟩
  go_wp2_with fail
  go_ret
  exact ⟨rfl, rfl⟩


set_option maxHeartbeats 1000000 in
theorem sgn_pos_yes (a : ByteArray) (z : Int) (w : World) (hs0 : 0 < a.size) (hc : a[0].toNat ≠ 45) (hz0 : 0 ≤ z) (hz1 : z ≤ 999999) (c0 : ∀ w : World, Calls Tryd.prog 29 #[.string a] w fun e w' => e = .returned (.int .i64 z) ∧ w = w') : Calls Tryd.prog 24 #[.string a] w (fun e w' => e = .returned (.int .i64 (z)) ∧ w = w') := by
  have e45 : ((a[0].toNat : Int) == 45) = false := beq_eq_false_iff_ne.2 (by omega)
  replace hc := Lib.hid hc
  replace c0 := Lib.hid c0
  go_enter Tryd.func24, Tryd.ntmps24
  go_wp2_with fail
  refine (c0.out _).mono ?_
  rintro e w1 ⟨rfl, rfl⟩
  go_wp2_with fail
  go_ret
  exact ⟨rfl, rfl⟩


set_option maxHeartbeats 1000000 in
theorem sgn_pos_no (a : ByteArray) (z : Int) (w : World) (hs0 : 0 < a.size) (hc : a[0].toNat ≠ 45) (hz0 : z < 0) (c0 : ∀ w : World, Calls Tryd.prog 29 #[.string a] w fun e w' => e = .returned (.int .i64 z) ∧ w = w') : Calls Tryd.prog 24 #[.string a] w (fun e w' => e = .returned (.int .i64 (100000)) ∧ w = w') := by
  have e45 : ((a[0].toNat : Int) == 45) = false := beq_eq_false_iff_ne.2 (by omega)
  replace hc := Lib.hid hc
  replace c0 := Lib.hid c0
  go_enter Tryd.func24, Tryd.ntmps24
  go_wp2_with fail
  refine (c0.out _).mono ?_
  rintro e w1 ⟨rfl, rfl⟩
  go_wp2_with fail
  go_ret
  exact ⟨rfl, rfl⟩


set_option maxHeartbeats 1000000 in
theorem sgn_emp_yes (a : ByteArray) (z : Int) (w : World) (hs0 : a.size = 0) (hz0 : 0 ≤ z) (hz1 : z ≤ 999999) (c0 : ∀ w : World, Calls Tryd.prog 29 #[.string a] w fun e w' => e = .returned (.int .i64 z) ∧ w = w') : Calls Tryd.prog 24 #[.string a] w (fun e w' => e = .returned (.int .i64 (z)) ∧ w = w') := by
  have d0 : ¬ 0 < (a.size : Int) := by omega
  clear hs0
  replace c0 := Lib.hid c0
  go_enter Tryd.func24, Tryd.ntmps24
  go_wp2_with fail
  refine (c0.out _).mono ?_
  rintro e w1 ⟨rfl, rfl⟩
  go_wp2_with fail
  go_ret
  exact ⟨rfl, rfl⟩


set_option maxHeartbeats 1000000 in
theorem sgn_emp_no (a : ByteArray) (z : Int) (w : World) (hs0 : a.size = 0) (hz0 : z < 0) (c0 : ∀ w : World, Calls Tryd.prog 29 #[.string a] w fun e w' => e = .returned (.int .i64 z) ∧ w = w') : Calls Tryd.prog 24 #[.string a] w (fun e w' => e = .returned (.int .i64 (100000)) ∧ w = w') := by
  have d0 : ¬ 0 < (a.size : Int) := by omega
  clear hs0
  replace c0 := Lib.hid c0
  go_enter Tryd.func24, Tryd.ntmps24
  go_wp2_with fail
  refine (c0.out _).mono ?_
  rintro e w1 ⟨rfl, rfl⟩
  go_wp2_with fail
  go_ret
  exact ⟨rfl, rfl⟩


theorem ecSigned_some (a : ByteArray) : ∃ z : Int, -999999 ≤ z ∧ z ≤ 999999 ∧ ∀ w : World, Calls Tryd.prog 24 #[.string a] w fun e w' => e = .returned (.int .i64 z) ∧ w = w' := by
  by_cases hs : 0 < a.size
  · by_cases hc : a[0].toNat = 45
    · obtain ⟨z, h0, h1, c⟩ := l1Read_some (a.extract 1 a.size)
      by_cases hz : 0 ≤ z
      · exact ⟨-z, by omega, by omega, fun w => sgn_neg_yes a z w hs hc hz h1 c⟩
      · exact ⟨100000, by omega, by omega, fun w => sgn_neg_no a z w hs hc (by omega) c⟩
    · obtain ⟨z, h0, h1, c⟩ := l1Read_some a
      by_cases hz : 0 ≤ z
      · exact ⟨z, by omega, by omega, fun w => sgn_pos_yes a z w hs hc hz h1 c⟩
      · exact ⟨100000, by omega, by omega, fun w => sgn_pos_no a z w hs hc (by omega) c⟩
  · obtain ⟨z, h0, h1, c⟩ := l1Read_some a
    by_cases hz : 0 ≤ z
    · exact ⟨z, by omega, by omega, fun w => sgn_emp_yes a z w (by omega) hz h1 c⟩
    · exact ⟨100000, by omega, by omega, fun w => sgn_emp_no a z w (by omega) (by omega) c⟩
theorem intB_neg_at {p : Int} (h : p < 0) : ∃ hs : 0 < (intB p).size, ((intB p)[0]'hs).toNat = 45 ∧ (intB p).extract 1 (intB p).size = numB p.natAbs := by
  have hd : (intB p).data.toList = 45 :: Lib.decDigits p.natAbs := by unfold intB Lib.itoa; rw [if_pos h]
  have hz : 0 < (intB p).size := by
    have : (intB p).data.toList.length = (intB p).size := by rw [Array.length_toList]; rfl
    rw [hd] at this
    simp at this
    omega
  refine ⟨hz, ?_, ?_⟩
  · have e3 : (intB p)[0]'hz = 45 := by
      show (intB p).data[0]'_ = 45
      rw [← Array.getElem_toList]
      simp [hd]
    rw [e3]; rfl
  · apply ByteArray.ext
    apply Array.toList_inj.1
    rw [ByteArray.data_extract, Array.toList_extract, hd]
    unfold List.extract
    show List.take _ (Lib.decDigits p.natAbs) = Lib.decDigits p.natAbs
    refine List.take_of_length_le ?_
    have : (intB p).data.toList.length = (intB p).size := by rw [Array.length_toList]; rfl
    rw [hd] at this
    simp at this
    omega
theorem intB_pos_at {p : Int} (h : 0 ≤ p) : ∃ hs : 0 < (intB p).size, ((intB p)[0]'hs).toNat ≠ 45 := by
  have e := intB_pos h
  rw [e]
  refine ⟨numB_pos _, ?_⟩
  have hd := numB_dig p.toNat 0 (numB_pos _)
  unfold dig at hd
  rw [get_data (numB_pos _)] at hd
  omega
theorem ecSigned_int (z : Int) (h0 : -999999 ≤ z) (h1 : z ≤ 999999) (w : World) : Calls Tryd.prog 24 #[.string (intB z)] w fun e w' => e = .returned (.int .i64 z) ∧ w = w' := by
  by_cases hz : z < 0
  · obtain ⟨hs, hc, he⟩ := intB_neg_at hz
    have := sgn_neg_yes (intB z) (z.natAbs : Int) w hs hc (by omega) (by omega) (by rw [he]; exact fun W => l1Read_num z.natAbs (by omega) W)
    rwa [show -(z.natAbs : Int) = z by omega] at this
  · obtain ⟨hs, hc⟩ := intB_pos_at (p := z) (by omega)
    have e : intB z = numB z.toNat := intB_pos (by omega)
    have := sgn_pos_yes (intB z) (z.toNat : Int) w hs hc (by omega) (by omega) (by rw [e]; exact fun W => l1Read_num z.toNat (by omega) W)
    rwa [show (z.toNat : Int) = z by omega] at this
end Go.Proofs.YtoekhkppjccceaaDoor
