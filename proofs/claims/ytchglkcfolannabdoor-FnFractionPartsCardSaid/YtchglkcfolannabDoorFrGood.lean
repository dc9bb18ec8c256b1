/- Which fractions are valid: the model's and the program's test, and the table of limits (written by wip/gen/frgood.py). -/
import Derived.Test.YtchglkcfolannabDoorFrGcd
import Derived.Test.YtchglkcfolannabDoorFrMath
namespace Go.Proofs.YtchglkcfolannabDoor
open Go.RowKit Go.Joins

theorem quiet_left {P : Program} {f : FuncId} {args : Array Value} {w : World} {n : Nat} {v : Value}
    (h : Calls P f args (w.drewN n) fun e w' => e = .returned v ∧ w.drewN n = w') : Calls P f args (w.drewN n) fun e w'' => e = .returned v ∧ ∃ m, w'' = w.drewN m :=
  h.mono fun _ _ ⟨he, hm⟩ => ⟨he, n, hm.symm⟩

set_option maxHeartbeats 400000 in
theorem isWithin0_yes (n : Int) (w : World) (hc : w.cell? ⟨0, 0, none⟩ = some (.int .i64 1000000000)) (h1 : -1000000000 ≤ n) (h2 : n ≤ 1000000000) :
    Calls Tryd.prog 52 #[.int .i64 n, .int .i64 0] w fun e w' => e = .returned (.bool true) ∧ w = w' := by
  go_enter Tryd.func52, Tryd.ntmps52
  go_wp2
  go_ret
  exact ⟨rfl, rfl⟩
set_option maxHeartbeats 400000 in
theorem isWithin0_no (n : Int) (w : World) (hc : w.cell? ⟨0, 0, none⟩ = some (.int .i64 1000000000)) (h : n < -1000000000 ∨ 1000000000 < n) :
    Calls Tryd.prog 52 #[.int .i64 n, .int .i64 0] w fun e w' => e = .returned (.bool false) ∧ w = w' := by
  by_cases h1 : -1000000000 ≤ n
  · have d : decide (n ≤ 1000000000) = false := by simp; omega
    clear h
    go_enter Tryd.func52, Tryd.ntmps52
    go_wp2
    go_ret
    exact ⟨rfl, rfl⟩
  · have d : decide (-1000000000 ≤ n) = false := by simp; omega
    clear h h1
    go_enter Tryd.func52, Tryd.ntmps52
    go_wp2
    go_ret
    exact ⟨rfl, rfl⟩

set_option maxHeartbeats 400000 in
theorem isWithin1_yes (n : Int) (w : World) (hc : w.cell? ⟨0, 1, none⟩ = some (.int .i64 1000000000000000000)) (h1 : -1000000000000000000 ≤ n) (h2 : n ≤ 1000000000000000000) :
    Calls Tryd.prog 52 #[.int .i64 n, .int .i64 1] w fun e w' => e = .returned (.bool true) ∧ w = w' := by
  go_enter Tryd.func52, Tryd.ntmps52
  go_wp2
  go_ret
  exact ⟨rfl, rfl⟩
set_option maxHeartbeats 400000 in
theorem isWithin1_no (n : Int) (w : World) (hc : w.cell? ⟨0, 1, none⟩ = some (.int .i64 1000000000000000000)) (h : n < -1000000000000000000 ∨ 1000000000000000000 < n) :
    Calls Tryd.prog 52 #[.int .i64 n, .int .i64 1] w fun e w' => e = .returned (.bool false) ∧ w = w' := by
  by_cases h1 : -1000000000000000000 ≤ n
  · have d : decide (n ≤ 1000000000000000000) = false := by simp; omega
    clear h
    go_enter Tryd.func52, Tryd.ntmps52
    go_wp2
    go_ret
    exact ⟨rfl, rfl⟩
  · have d : decide (-1000000000000000000 ≤ n) = false := by simp; omega
    clear h h1
    go_enter Tryd.func52, Tryd.ntmps52
    go_wp2
    go_ret
    exact ⟨rfl, rfl⟩

theorem FrG.no {p q : Int} (h : ¬ FrG p q) : (q < 1 ∨ 1000000000 < q) ∨ ((1 ≤ q ∧ q ≤ 1000000000) ∧ (p < -1000000000 ∨ 1000000000 < p)) ∨ ((1 ≤ q ∧ q ≤ 1000000000) ∧ (-1000000000 ≤ p ∧ p ≤ 1000000000) ∧ Nat.gcd p.natAbs q.natAbs ≠ 1) := by
  unfold FrG at h
  by_cases h1 : 1 ≤ q ∧ q ≤ 1000000000
  · by_cases h2 : -1000000000 ≤ p ∧ p ≤ 1000000000
    · exact .inr (.inr ⟨h1, h2, fun e => h ⟨h1.1, h1.2, h2.1, h2.2, e⟩⟩)
    · exact .inr (.inl ⟨h1, by omega⟩)
  · exact .inl (by omega)

set_option maxHeartbeats 1000000 in
theorem frGood_yes (p q : Int) (w : World)  (hg : FrG p q) :
    Calls Tryd.prog 26 #[.agg #[.int .i64 p, .int .i64 q]] w (GivesB w true) := by
  obtain ⟨g1, g2, g3, g4, g5⟩ := hg
  obtain ⟨d, rfl⟩ : ∃ d : Nat, q = (d : Int) := ⟨q.toNat, by omega⟩
  rw [Int.natAbs_natCast] at g5
  have h := below_alloc1 w (.cells #[.int .i64 p, .int .i64 (d : Int)] 24)
  obtain ⟨k1, k2⟩ := (Box.new w 24 #[.int .i64 p, .int .i64 (d : Int)]).two
  obtain ⟨G, hG⟩ : ∃ G, G = Nat.gcd p.natAbs d := ⟨_, rfl⟩
  have c3 := fun W => l1Abs_any p W (by omega) (by omega)
  have c4 := fun W => bgCommon_any p.natAbs d W (by omega) (by omega)
  replace c3 := Lib.hid c3
  rw [← hG] at c4 g5
  clear hG
  replace c4 := Lib.hid c4
  subst g5
  go_enter Tryd.func26, Tryd.ntmps26
  go_wp2
  go_quiet ((first | (go_at_call 33; refine quiet_left (l1In_yes _ _ _ _ ?_ ?_) <;> omega) | (go_at_call 33; refine quiet_left (l1In_no _ _ _ _ ?_); omega) | (go_at_call 31; exact quiet_left (c3.out _)) | (go_at_call 55; exact quiet_left (c4.out _))))
  go_wp2
  go_ret
  exact ⟨rfl, Below.drewN' h _⟩

set_option maxHeartbeats 1000000 in
theorem frGood_no (p q : Int) (w : World)  (hg : ¬ FrG p q) :
    Calls Tryd.prog 26 #[.agg #[.int .i64 p, .int .i64 q]] w (GivesB w false) := by
  rcases FrG.no hg with g | ⟨⟨g1, g2⟩, g⟩ | ⟨⟨g1, g2⟩, ⟨g3, g4⟩, g5⟩
  · clear hg
    have h := below_alloc1 w (.cells #[.int .i64 p, .int .i64 q] 24)
    obtain ⟨k1, k2⟩ := (Box.new w 24 #[.int .i64 p, .int .i64 q]).two
    go_enter Tryd.func26, Tryd.ntmps26
    go_wp2
    go_quiet ((first | (go_at_call 33; refine quiet_left (l1In_yes _ _ _ _ ?_ ?_) <;> omega) | (go_at_call 33; refine quiet_left (l1In_no _ _ _ _ ?_); omega) | (go_at_call 31; exact quiet_left (c3.out _)) | (go_at_call 55; exact quiet_left (c4.out _))))
    go_wp2
    go_ret
    exact ⟨rfl, Below.drewN' h _⟩
  · clear hg
    have h := below_alloc1 w (.cells #[.int .i64 p, .int .i64 q] 24)
    obtain ⟨k1, k2⟩ := (Box.new w 24 #[.int .i64 p, .int .i64 q]).two
    go_enter Tryd.func26, Tryd.ntmps26
    go_wp2
    go_quiet ((first | (go_at_call 33; refine quiet_left (l1In_yes _ _ _ _ ?_ ?_) <;> omega) | (go_at_call 33; refine quiet_left (l1In_no _ _ _ _ ?_); omega) | (go_at_call 31; exact quiet_left (c3.out _)) | (go_at_call 55; exact quiet_left (c4.out _))))
    go_wp2
    go_ret
    exact ⟨rfl, Below.drewN' h _⟩
  · clear hg
    obtain ⟨d, rfl⟩ : ∃ d : Nat, q = (d : Int) := ⟨q.toNat, by omega⟩
    rw [Int.natAbs_natCast] at g5
    have h := below_alloc1 w (.cells #[.int .i64 p, .int .i64 (d : Int)] 24)
    obtain ⟨k1, k2⟩ := (Box.new w 24 #[.int .i64 p, .int .i64 (d : Int)]).two
    obtain ⟨G, hG⟩ : ∃ G, G = Nat.gcd p.natAbs d := ⟨_, rfl⟩
    have c3 := fun W => l1Abs_any p W (by omega) (by omega)
    have c4 := fun W => bgCommon_any p.natAbs d W (by omega) (by omega)
    replace c3 := Lib.hid c3
    rw [← hG] at c4 g5
    clear hG
    replace c4 := Lib.hid c4
    have e1 : (((G : Nat) : Int) == 1) = false := beq_eq_false_iff_ne.2 (by omega)
    go_enter Tryd.func26, Tryd.ntmps26
    go_wp2
    go_quiet ((first | (go_at_call 33; refine quiet_left (l1In_yes _ _ _ _ ?_ ?_) <;> omega) | (go_at_call 33; refine quiet_left (l1In_no _ _ _ _ ?_); omega) | (go_at_call 31; exact quiet_left (c3.out _)) | (go_at_call 55; exact quiet_left (c4.out _))))
    go_wp2
    go_ret
    exact ⟨rfl, Below.drewN' h _⟩

set_option maxHeartbeats 1000000 in
theorem isFractionI_yes (p q : Int) (w : World) (hL : Lim w) (hg : FrG p q) :
    Calls Tryd.prog 20 #[.agg #[.int .i64 p, .int .i64 q]] w (GivesB w true) := by
  obtain ⟨g1, g2, g3, g4, g5⟩ := hg
  obtain ⟨d, rfl⟩ : ∃ d : Nat, q = (d : Int) := ⟨q.toNat, by omega⟩
  rw [Int.natAbs_natCast] at g5
  have h := below_alloc1 w (.cells #[.int .i64 p, .int .i64 (d : Int)] 24)
  obtain ⟨t0, -, -⟩ := hL.kept h
  clear hL
  obtain ⟨k1, k2⟩ := (Box.new w 24 #[.int .i64 p, .int .i64 (d : Int)]).two
  obtain ⟨G, hG⟩ : ∃ G, G = Nat.gcd p.natAbs d := ⟨_, rfl⟩
  have c4 := fun W => commonDivisor_any p.natAbs d W (by omega) (by omega)
  rw [← hG] at c4 g5
  clear hG
  subst g5
  by_cases hp0 : 0 ≤ p
  · have hp : 0 ≤ p := hp0
    clear hp0
    rw [show ((p.natAbs : Nat) : Int) = p from by omega] at c4
    replace c4 := Lib.hid c4
    go_enter Tryd.func20, Tryd.ntmps20
    go_wp2_with fail
    refine (isWithin0_yes _ _ t0 (by omega) (by omega)).mono ?_
    rintro e w1 ⟨rfl, rfl⟩
    go_wp2_with fail
    refine (isWithin0_yes _ _ t0 (by omega) (by omega)).mono ?_
    rintro e w1 ⟨rfl, rfl⟩
    go_wp2_with fail
    refine (c4.out _).mono ?_
    rintro e w1 ⟨rfl, hb⟩
    go_wp2_with fail
    go_ret
    exact ⟨rfl, Below.step h hb⟩
  · have hp : p < 0 := Int.lt_of_not_ge hp0
    clear hp0
    rw [show ((p.natAbs : Nat) : Int) = -p from by omega] at c4
    replace c4 := Lib.hid c4
    go_enter Tryd.func20, Tryd.ntmps20
    go_wp2_with fail
    refine (isWithin0_yes _ _ t0 (by omega) (by omega)).mono ?_
    rintro e w1 ⟨rfl, rfl⟩
    go_wp2_with fail
    refine (isWithin0_yes _ _ t0 (by omega) (by omega)).mono ?_
    rintro e w1 ⟨rfl, rfl⟩
    go_wp2_with fail
    refine (c4.out _).mono ?_
    rintro e w1 ⟨rfl, hb⟩
    go_wp2_with fail
    go_ret
    exact ⟨rfl, Below.step h hb⟩

set_option maxHeartbeats 1000000 in
theorem isFractionI_no (p q : Int) (w : World) (hL : Lim w) (hg : ¬ FrG p q) :
    Calls Tryd.prog 20 #[.agg #[.int .i64 p, .int .i64 q]] w (GivesB w false) := by
  rcases FrG.no hg with g | ⟨⟨g1, g2⟩, g⟩ | ⟨⟨g1, g2⟩, ⟨g3, g4⟩, g5⟩
  · clear hg
    have h := below_alloc1 w (.cells #[.int .i64 p, .int .i64 q] 24)
    obtain ⟨t0, -, -⟩ := hL.kept h
    clear hL
    obtain ⟨k1, k2⟩ := (Box.new w 24 #[.int .i64 p, .int .i64 q]).two
    by_cases hq : q < 1
    · have e1 : decide (0 < q) = false := by simp; omega
      clear g hq
      go_enter Tryd.func20, Tryd.ntmps20
      go_wp2_with fail
      go_ret
      exact ⟨rfl, h⟩
    · by_cases hp : -1000000000 ≤ p ∧ p ≤ 1000000000
      · obtain ⟨g3, g4⟩ := hp
        have g1 : 0 < q := by omega
        have g2 : 1000000000 < q := by omega
        clear g hq
        go_enter Tryd.func20, Tryd.ntmps20
        go_wp2_with fail
        refine (isWithin0_yes _ _ t0 (by omega) (by omega)).mono ?_
        rintro e w1 ⟨rfl, rfl⟩
        go_wp2_with fail
        refine (isWithin0_no _ _ t0 (by omega)).mono ?_
        rintro e w1 ⟨rfl, rfl⟩
        go_wp2_with fail
        go_ret
        exact ⟨rfl, h⟩
      · have g1 : 0 < q := by omega
        have g3 : p < -1000000000 ∨ 1000000000 < p := by omega
        clear g hq hp
        go_enter Tryd.func20, Tryd.ntmps20
        go_wp2_with fail
        refine (isWithin0_no _ _ t0 (by omega)).mono ?_
        rintro e w1 ⟨rfl, rfl⟩
        go_wp2_with fail
        go_ret
        exact ⟨rfl, h⟩
  · clear hg
    have h := below_alloc1 w (.cells #[.int .i64 p, .int .i64 q] 24)
    obtain ⟨t0, -, -⟩ := hL.kept h
    clear hL
    obtain ⟨k1, k2⟩ := (Box.new w 24 #[.int .i64 p, .int .i64 q]).two
    go_enter Tryd.func20, Tryd.ntmps20
    go_wp2_with fail
    refine (isWithin0_no _ _ t0 (by omega)).mono ?_
    rintro e w1 ⟨rfl, rfl⟩
    go_wp2_with fail
    go_ret
    exact ⟨rfl, h⟩
  · clear hg
    obtain ⟨d, rfl⟩ : ∃ d : Nat, q = (d : Int) := ⟨q.toNat, by omega⟩
    rw [Int.natAbs_natCast] at g5
    have h := below_alloc1 w (.cells #[.int .i64 p, .int .i64 (d : Int)] 24)
    obtain ⟨t0, -, -⟩ := hL.kept h
    clear hL
    obtain ⟨k1, k2⟩ := (Box.new w 24 #[.int .i64 p, .int .i64 (d : Int)]).two
    obtain ⟨G, hG⟩ : ∃ G, G = Nat.gcd p.natAbs d := ⟨_, rfl⟩
    have c4 := fun W => commonDivisor_any p.natAbs d W (by omega) (by omega)
    rw [← hG] at c4 g5
    clear hG
    have e1 : (((G : Nat) : Int) == 1) = false := beq_eq_false_iff_ne.2 (by omega)
    by_cases hp0 : 0 ≤ p
    · have hp : 0 ≤ p := hp0
      clear hp0
      rw [show ((p.natAbs : Nat) : Int) = p from by omega] at c4
      replace c4 := Lib.hid c4
      go_enter Tryd.func20, Tryd.ntmps20
      go_wp2_with fail
      refine (isWithin0_yes _ _ t0 (by omega) (by omega)).mono ?_
      rintro e w1 ⟨rfl, rfl⟩
      go_wp2_with fail
      refine (isWithin0_yes _ _ t0 (by omega) (by omega)).mono ?_
      rintro e w1 ⟨rfl, rfl⟩
      go_wp2_with fail
      refine (c4.out _).mono ?_
      rintro e w1 ⟨rfl, hb⟩
      go_wp2_with fail
      go_ret
      exact ⟨rfl, Below.step h hb⟩
    · have hp : p < 0 := Int.lt_of_not_ge hp0
      clear hp0
      rw [show ((p.natAbs : Nat) : Int) = -p from by omega] at c4
      replace c4 := Lib.hid c4
      go_enter Tryd.func20, Tryd.ntmps20
      go_wp2_with fail
      refine (isWithin0_yes _ _ t0 (by omega) (by omega)).mono ?_
      rintro e w1 ⟨rfl, rfl⟩
      go_wp2_with fail
      refine (isWithin0_yes _ _ t0 (by omega) (by omega)).mono ?_
      rintro e w1 ⟨rfl, rfl⟩
      go_wp2_with fail
      refine (c4.out _).mono ?_
      rintro e w1 ⟨rfl, hb⟩
      go_wp2_with fail
      go_ret
      exact ⟨rfl, Below.step h hb⟩
end Go.Proofs.YtchglkcfolannabDoor
