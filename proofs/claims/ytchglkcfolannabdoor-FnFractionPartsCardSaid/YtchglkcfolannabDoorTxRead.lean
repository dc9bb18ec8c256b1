/- Reading numbers: the model's frRead, the program's readSigned. -/
import Derived.Test.YtchglkcfolannabDoorTxNum
import Derived.Test.YtchglkcfolannabDoorTxShelf
import Derived.Laws.RangeAny
namespace Go.Proofs.YtchglkcfolannabDoor
open Go.RowKit Go.Joins

/-- The value of the first i bytes, read as digits. -/
def valTo (s : ByteArray) : Nat → Nat
  | 0 => 0
  | i + 1 => 10 * valTo s i + ((s.data[i]?.getD 0).toNat - 48)
def dig (s : ByteArray) (i : Nat) : Prop := 48 ≤ (s.data[i]?.getD 0).toNat ∧ (s.data[i]?.getD 0).toNat ≤ 57
theorem get_data {s : ByteArray} {i : Nat} (h : i < s.size) : s.data[i]?.getD 0 = s[i] := by rw [Array.getElem?_eq_getElem h]; rfl
theorem valTo_lt {s : ByteArray} : ∀ i : Nat, (∀ k, k < i → dig s k) → valTo s i < 10 ^ i
  | 0, _ => by simp [valTo]
  | i + 1, h => by
    have h1 := valTo_lt i (fun k hk => h k (by omega))
    have h2 := h i (by omega)
    unfold dig at h2
    rw [Nat.pow_succ, valTo]
    omega
theorem valTo_le {s : ByteArray} {i : Nat} (hi : i ≤ 10) (h : ∀ k, k < i → dig s k) : valTo s i ≤ 9999999999 := by
  have h1 := valTo_lt i h
  have h2 : 10 ^ i ≤ 10 ^ 10 := Nat.pow_le_pow_right (by omega) hi
  omega

set_option maxHeartbeats 1000000 in
theorem frRead_len (s : ByteArray) (w : World) (h : (s.size : Int) < 1 ∨ 10 < (s.size : Int)) :
    Calls Tryd.prog 64 #[.string s] w fun e w' => e = .returned (.int .i64 (-1)) ∧ w = w' := by
  have c := fun W => l1In_no (s.size : Int) 1 10 W h
  replace c := Lib.hid c
  clear h
  go_enter Tryd.func64, Tryd.ntmps64
  go_wp2_with fail
  refine (c.out _).mono ?_
  rintro e w' ⟨rfl, rfl⟩
  go_wp2_with fail
  go_ret
  exact ⟨rfl, rfl⟩

set_option maxHeartbeats 1000000 in
theorem frRead_zero (s : ByteArray) (w : World) (h1 : 1 < s.size) (h2 : s.size ≤ 10) (h0 : s[0].toNat = 48) :
    Calls Tryd.prog 64 #[.string s] w fun e w' => e = .returned (.int .i64 (-1)) ∧ w = w' := by
  have c := fun W => l1In_yes (s.size : Int) 1 10 W (by omega) (by omega)
  have e0 : ((s[0].toNat : Int) == 48) = true := by rw [h0]; rfl
  replace c := Lib.hid c
  replace h0 := Lib.hid h0
  have hz : 0 < s.size := by omega
  go_enter Tryd.func64, Tryd.ntmps64
  go_wp2_with fail
  refine (c.out _).mono ?_
  rintro e w' ⟨rfl, rfl⟩
  go_wp2_with fail
  go_ret
  exact ⟨rfl, rfl⟩

set_option maxHeartbeats 4000000 in
theorem frRead_loop (s : ByteArray) (w : World) (h1 : 1 ≤ s.size) (h2 : s.size ≤ 10) (h0 : s[0].toNat ≠ 48 ∨ s.size = 1) (m : Nat) (hm : m ≤ s.size) (hd : ∀ k, k < m → dig s k) (hb : m < s.size → ¬ dig s m) (z : Int) (hz : z = if m < s.size then -1 else (valTo s s.size : Int)) :
    Calls Tryd.prog 64 #[.string s] w fun e w' => e = .returned (.int .i64 z) ∧ w = w' := by
  have c := fun W => l1In_yes (s.size : Int) 1 10 W (by omega) (by omega)
  replace c := Lib.hid c
  replace hz := Lib.hid hz
  replace hd := Lib.hid hd
  replace hb := Lib.hid hb
  have hp : 0 < s.size := by omega
  by_cases hc : s[0].toNat = 48
  · have h3 : s.size = 1 := by omega
    have e0 : ((s[0].toNat : Int) == 48) = true := by rw [hc]; rfl
    have e1 : decide ((1 : Int) < s.size) = false := by simp; omega
    clear h0 hc
    replace h3 := Lib.hid h3
    go_enter Tryd.func64, Tryd.ntmps64
    go_wp2_with fail
    refine (c.out _).mono ?_
    rintro e w' ⟨rfl, rfl⟩
    go_wp2_with fail
    go_loop [3, 4] (fun n q => ∃ i v : Nat, i ≤ m ∧ n = .int .i64 (v : Nat) ∧ q = .int .i64 i ∧ Hid (v = valTo s i) ∧ v ≤ 9999999999) (fun _ q => s.size - (intOf q).toNat)
    case atStart => exact ⟨0, 0, Nat.zero_le _, rfl, rfl, rfl, by omega⟩
    case round =>
      obtain ⟨i, v, hi, rfl, rfl, hv, hvb⟩ := hrel
      by_cases hlt : i < m
      · have his : i < s.size := by omega
        have hdi := hd.out i hlt
        unfold dig at hdi
        rw [get_data his] at hdi
        obtain ⟨d1, d2⟩ := hdi
        have d3 : 48 ≤ (s[i].toNat : Int) := by omega
        have d4 : (s[i].toNat : Int) ≤ 57 := by omega
        have hv1 : Hid (10 * v + (s[i].toNat - 48) = valTo s (i + 1)) := by
          show _ = _
          rw [valTo, get_data his, hv.out]
        have hvb2 := valTo_le (s := s) (i := i + 1) (by omega) (fun k hk => hd.out k (by omega))
        rw [← hv1.out] at hvb2
        have hvi : ((10 * v + (s[i].toNat - 48) : Nat) : Int) = 10 * (v : Int) + ((s[i].toNat : Int) - 48) := by omega
        replace hvi := Lib.hid hvi
        clear hb hz
        go_wp2_with fail
        go_round
        case rel => exact ⟨i + 1, 10 * v + (s[i].toNat - 48), by omega, by rw [hvi.out], by go_num, hv1, hvb2⟩
        case measure => simp [intOf]; omega
      · obtain rfl : i = m := by omega
        by_cases hend : i < s.size
        · have hbad := hb.out hend
          unfold dig at hbad
          rw [get_data hend] at hbad
          have hz1 : z = -1 := by rw [hz.out, if_pos hend]
          subst hz1
          clear hb hz hd hlt
          by_cases hlo : (s[i].toNat : Int) < 48
          · clear hbad
            go_wp2_with fail
            go_ret
            exact ⟨rfl, rfl⟩
          · have hhi : 57 < (s[i].toNat : Int) := by omega
            have hlo' : decide ((s[i].toNat : Int) < 48) = false := by simp; omega
            have hhi' : decide (57 < (s[i].toNat : Int)) = true := by simp; omega
            clear hbad hlo hhi
            go_wp2_with fail
            go_ret
            exact ⟨rfl, rfl⟩
        · have hz1 : Hid ((v : Int) = z) := by
            show _ = _
            rw [hz.out, if_neg hend, hv.out, show i = s.size from by omega]
          have hend' : ¬ (i : Int) < (s.size : Int) := by omega
          clear hb hz hd hlt hend
          go_wp2_with fail
          go_ret
          exact ⟨by rw [hz1.out.symm]; rfl, rfl⟩
  · have h3 : True := trivial
    have e0 : ((s[0].toNat : Int) == 48) = false := by rw [beq_eq_false_iff_ne]; omega
    clear h0 hc
    replace h3 := Lib.hid h3
    go_enter Tryd.func64, Tryd.ntmps64
    go_wp2_with fail
    refine (c.out _).mono ?_
    rintro e w' ⟨rfl, rfl⟩
    go_wp2_with fail
    go_loop [3, 4] (fun n q => ∃ i v : Nat, i ≤ m ∧ n = .int .i64 (v : Nat) ∧ q = .int .i64 i ∧ Hid (v = valTo s i) ∧ v ≤ 9999999999) (fun _ q => s.size - (intOf q).toNat)
    case atStart => exact ⟨0, 0, Nat.zero_le _, rfl, rfl, rfl, by omega⟩
    case round =>
      obtain ⟨i, v, hi, rfl, rfl, hv, hvb⟩ := hrel
      by_cases hlt : i < m
      · have his : i < s.size := by omega
        have hdi := hd.out i hlt
        unfold dig at hdi
        rw [get_data his] at hdi
        obtain ⟨d1, d2⟩ := hdi
        have d3 : 48 ≤ (s[i].toNat : Int) := by omega
        have d4 : (s[i].toNat : Int) ≤ 57 := by omega
        have hv1 : Hid (10 * v + (s[i].toNat - 48) = valTo s (i + 1)) := by
          show _ = _
          rw [valTo, get_data his, hv.out]
        have hvb2 := valTo_le (s := s) (i := i + 1) (by omega) (fun k hk => hd.out k (by omega))
        rw [← hv1.out] at hvb2
        have hvi : ((10 * v + (s[i].toNat - 48) : Nat) : Int) = 10 * (v : Int) + ((s[i].toNat : Int) - 48) := by omega
        replace hvi := Lib.hid hvi
        clear hb hz
        go_wp2_with fail
        go_round
        case rel => exact ⟨i + 1, 10 * v + (s[i].toNat - 48), by omega, by rw [hvi.out], by go_num, hv1, hvb2⟩
        case measure => simp [intOf]; omega
      · obtain rfl : i = m := by omega
        by_cases hend : i < s.size
        · have hbad := hb.out hend
          unfold dig at hbad
          rw [get_data hend] at hbad
          have hz1 : z = -1 := by rw [hz.out, if_pos hend]
          subst hz1
          clear hb hz hd hlt
          by_cases hlo : (s[i].toNat : Int) < 48
          · clear hbad
            go_wp2_with fail
            go_ret
            exact ⟨rfl, rfl⟩
          · have hhi : 57 < (s[i].toNat : Int) := by omega
            have hlo' : decide ((s[i].toNat : Int) < 48) = false := by simp; omega
            have hhi' : decide (57 < (s[i].toNat : Int)) = true := by simp; omega
            clear hbad hlo hhi
            go_wp2_with fail
            go_ret
            exact ⟨rfl, rfl⟩
        · have hz1 : Hid ((v : Int) = z) := by
            show _ = _
            rw [hz.out, if_neg hend, hv.out, show i = s.size from by omega]
          have hend' : ¬ (i : Int) < (s.size : Int) := by omega
          clear hb hz hd hlt hend
          go_wp2_with fail
          go_ret
          exact ⟨by rw [hz1.out.symm]; rfl, rfl⟩

theorem first_bad (s : ByteArray) : ∀ n : Nat, (∃ m, m < n ∧ (∀ k, k < m → dig s k) ∧ ¬ dig s m) ∨ ∀ k, k < n → dig s k
  | 0 => .inr fun k hk => by omega
  | n + 1 => by
    rcases first_bad s n with ⟨m, h1, h2, h3⟩ | h
    · exact .inl ⟨m, by omega, h2, h3⟩
    · by_cases hn : dig s n
      · exact .inr fun k hk => by
          by_cases e : k = n
          · subst e; exact hn
          · exact h k (by omega)
      · exact .inl ⟨n, by omega, h, hn⟩

/-- A canonical numeral is read as its value. -/
theorem frRead_good (s : ByteArray) (h1 : 1 ≤ s.size) (h2 : s.size ≤ 10) (h0 : s[0].toNat ≠ 48 ∨ s.size = 1) (hd : ∀ k, k < s.size → dig s k) (w : World) :
    Calls Tryd.prog 64 #[.string s] w fun e w' => e = .returned (.int .i64 (valTo s s.size : Int)) ∧ w = w' :=
  frRead_loop s w h1 h2 h0 s.size (Nat.le_refl _) hd (fun h => absurd h (Nat.lt_irrefl _)) _ (by rw [if_neg (Nat.lt_irrefl _)])

/-- Any text is read as some number. -/
theorem frRead_some (s : ByteArray) : ∃ z : Int, -1 ≤ z ∧ z ≤ 9999999999 ∧ ∀ w : World, Calls Tryd.prog 64 #[.string s] w fun e w' => e = .returned (.int .i64 z) ∧ w = w' := by
  by_cases hl : (s.size : Int) < 1 ∨ 10 < (s.size : Int)
  · exact ⟨-1, by omega, by omega, fun w => frRead_len s w hl⟩
  · have h1 : 1 ≤ s.size := by omega
    have h2 : s.size ≤ 10 := by omega
    by_cases h0 : s[0].toNat ≠ 48 ∨ s.size = 1
    · rcases first_bad s s.size with ⟨m, a1, a2, a3⟩ | h
      · exact ⟨-1, by omega, by omega, fun w => frRead_loop s w h1 h2 h0 m (by omega) a2 (fun _ => a3) _ (by rw [if_pos a1])⟩
      · exact ⟨(valTo s s.size : Int), by omega, by have := valTo_le h2 h; omega, fun w => frRead_good s h1 h2 h0 h w⟩
    · exact ⟨-1, by omega, by omega, fun w => frRead_zero s w (by omega) h2 (by omega)⟩
end Go.Proofs.YtchglkcfolannabDoor
