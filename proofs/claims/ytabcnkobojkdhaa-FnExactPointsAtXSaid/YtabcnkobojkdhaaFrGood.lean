/- Which fractions are valid: the model's and the program's test, and the table of limits (written by wip/gen/frgood.py). -/
import Derived.Test.YtabcnkobojkdhaaCiGcd
import Derived.Test.YtabcnkobojkdhaaFrMath
namespace Go.Proofs.Ytabcnkobojkdhaa
open Go.RowKit Go.Joins

theorem quiet_left {P : Program} {f : FuncId} {args : Array Value} {w : World} {n : Nat} {v : Value}
    (h : Calls P f args (w.drewN n) fun e w' => e = .returned v ∧ w.drewN n = w') : Calls P f args (w.drewN n) fun e w'' => e = .returned v ∧ ∃ m, w'' = w.drewN m :=
  h.mono fun _ _ ⟨he, hm⟩ => ⟨he, n, hm.symm⟩

theorem FrG.no {p q : Int} (h : ¬ FrG p q) : (q < 1 ∨ 1000000000 < q) ∨ ((1 ≤ q ∧ q ≤ 1000000000) ∧ (p < -1000000000 ∨ 1000000000 < p)) ∨ ((1 ≤ q ∧ q ≤ 1000000000) ∧ (-1000000000 ≤ p ∧ p ≤ 1000000000) ∧ Nat.gcd p.natAbs q.natAbs ≠ 1) := by
  unfold FrG at h
  by_cases h1 : 1 ≤ q ∧ q ≤ 1000000000
  · by_cases h2 : -1000000000 ≤ p ∧ p ≤ 1000000000
    · exact .inr (.inr ⟨h1, h2, fun e => h ⟨h1.1, h1.2, h2.1, h2.2, e⟩⟩)
    · exact .inr (.inl ⟨h1, by omega⟩)
  · exact .inl (by omega)

set_option maxHeartbeats 1000000 in
theorem frGood_yes (p q : Int) (w : World)  (hg : FrG p q) :
    Calls Try.prog 30 #[.agg #[.int .i64 p, .int .i64 q]] w (GivesB w true) := by
  obtain ⟨g1, g2, g3, g4, g5⟩ := hg
  obtain ⟨d, rfl⟩ : ∃ d : Nat, q = (d : Int) := ⟨q.toNat, by omega⟩
  rw [Int.natAbs_natCast] at g5
  have h := below_alloc1 w (.cells #[.int .i64 p, .int .i64 (d : Int)] 40)
  obtain ⟨k1, k2⟩ := (Box.new w 40 #[.int .i64 p, .int .i64 (d : Int)]).two
  obtain ⟨G, hG⟩ : ∃ G, G = Nat.gcd p.natAbs d := ⟨_, rfl⟩
  have c3 := fun W => l1Abs_any p W (by omega) (by omega)
  have c4 := fun W => bgCommon_any p.natAbs d W (by omega) (by omega)
  replace c3 := Lib.hid c3
  rw [← hG] at c4 g5
  clear hG
  replace c4 := Lib.hid c4
  subst g5
  go_enter Try.func30, Try.ntmps30
  go_wp2
  go_quiet ((first | (go_at_call 33; refine quiet_left (l1In_yes _ _ _ _ ?_ ?_) <;> omega) | (go_at_call 33; refine quiet_left (l1In_no _ _ _ _ ?_); omega) | (go_at_call 40; exact quiet_left (c3.out _)) | (go_at_call 39; exact quiet_left (c4.out _))))
  go_wp2
  go_ret
  exact ⟨rfl, Below.drewN' h _⟩

set_option maxHeartbeats 1000000 in
theorem frGood_no (p q : Int) (w : World)  (hg : ¬ FrG p q) :
    Calls Try.prog 30 #[.agg #[.int .i64 p, .int .i64 q]] w (GivesB w false) := by
  rcases FrG.no hg with g | ⟨⟨g1, g2⟩, g⟩ | ⟨⟨g1, g2⟩, ⟨g3, g4⟩, g5⟩
  · clear hg
    have h := below_alloc1 w (.cells #[.int .i64 p, .int .i64 q] 40)
    obtain ⟨k1, k2⟩ := (Box.new w 40 #[.int .i64 p, .int .i64 q]).two
    go_enter Try.func30, Try.ntmps30
    go_wp2
    go_quiet ((first | (go_at_call 33; refine quiet_left (l1In_yes _ _ _ _ ?_ ?_) <;> omega) | (go_at_call 33; refine quiet_left (l1In_no _ _ _ _ ?_); omega) | (go_at_call 40; exact quiet_left (c3.out _)) | (go_at_call 39; exact quiet_left (c4.out _))))
    go_wp2
    go_ret
    exact ⟨rfl, Below.drewN' h _⟩
  · clear hg
    have h := below_alloc1 w (.cells #[.int .i64 p, .int .i64 q] 40)
    obtain ⟨k1, k2⟩ := (Box.new w 40 #[.int .i64 p, .int .i64 q]).two
    go_enter Try.func30, Try.ntmps30
    go_wp2
    go_quiet ((first | (go_at_call 33; refine quiet_left (l1In_yes _ _ _ _ ?_ ?_) <;> omega) | (go_at_call 33; refine quiet_left (l1In_no _ _ _ _ ?_); omega) | (go_at_call 40; exact quiet_left (c3.out _)) | (go_at_call 39; exact quiet_left (c4.out _))))
    go_wp2
    go_ret
    exact ⟨rfl, Below.drewN' h _⟩
  · clear hg
    obtain ⟨d, rfl⟩ : ∃ d : Nat, q = (d : Int) := ⟨q.toNat, by omega⟩
    rw [Int.natAbs_natCast] at g5
    have h := below_alloc1 w (.cells #[.int .i64 p, .int .i64 (d : Int)] 40)
    obtain ⟨k1, k2⟩ := (Box.new w 40 #[.int .i64 p, .int .i64 (d : Int)]).two
    obtain ⟨G, hG⟩ : ∃ G, G = Nat.gcd p.natAbs d := ⟨_, rfl⟩
    have c3 := fun W => l1Abs_any p W (by omega) (by omega)
    have c4 := fun W => bgCommon_any p.natAbs d W (by omega) (by omega)
    replace c3 := Lib.hid c3
    rw [← hG] at c4 g5
    clear hG
    replace c4 := Lib.hid c4
    have e1 : (((G : Nat) : Int) == 1) = false := beq_eq_false_iff_ne.2 (by omega)
    go_enter Try.func30, Try.ntmps30
    go_wp2
    go_quiet ((first | (go_at_call 33; refine quiet_left (l1In_yes _ _ _ _ ?_ ?_) <;> omega) | (go_at_call 33; refine quiet_left (l1In_no _ _ _ _ ?_); omega) | (go_at_call 40; exact quiet_left (c3.out _)) | (go_at_call 39; exact quiet_left (c4.out _))))
    go_wp2
    go_ret
    exact ⟨rfl, Below.drewN' h _⟩

end Go.Proofs.Ytabcnkobojkdhaa
