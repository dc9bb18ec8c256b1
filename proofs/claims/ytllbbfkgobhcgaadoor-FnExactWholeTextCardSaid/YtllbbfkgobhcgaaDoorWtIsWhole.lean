import Derived.Test.YtllbbfkgobhcgaaDoorGood
namespace Go.Proofs.YtllbbfkgobhcgaaDoor
open Go.RowKit Go.Joins

/-- What a whole must be. -/
def Good (neg : Bool) (xs : List Int) : Prop := xs.length ≤ 400 ∧ Rng 0 9999 xs ∧ (xs.length = 0 → neg = false) ∧ (0 < xs.length → 0 < xs[xs.length - 1]?.getD 0)

/-- The ways in which one is not. -/
theorem Good.no {neg : Bool} {xs : List Int} (h : ¬ Good neg xs) : 400 < xs.length ∨ (xs.length ≤ 400 ∧ ¬ Rng 0 9999 xs) ∨ (xs.length = 0 ∧ neg = true) ∨ (xs.length ≤ 400 ∧ 0 < xs.length ∧ Rng 0 9999 xs ∧ xs[xs.length - 1]?.getD 0 ≤ 0) := by
  by_cases h1 : xs.length ≤ 400
  · by_cases h2 : Rng 0 9999 xs
    · by_cases h3 : xs.length = 0
      · cases neg
        · exact absurd ⟨h1, h2, fun _ => rfl, fun h => by omega⟩ h
        · exact .inr (.inr (.inl ⟨h3, rfl⟩))
      · refine .inr (.inr (.inr ⟨h1, by omega, h2, ?_⟩))
        refine Int.not_lt.1 fun h4 => h ⟨h1, h2, fun e => absurd e h3, fun _ => h4⟩
    · exact .inr (.inl ⟨h1, h2⟩)
  · exact .inl (by omega)

set_option maxHeartbeats 1000000 in
theorem bgGood_yes (neg : Bool) (A : Option Addr) (n c : Nat) (xs : List Int) (w : World) (h : Rd w w.heap.size A n xs) (hg : Good neg xs) :
    Calls Tryd.prog 10 #[.agg #[.bool neg, .slice A n c]] w fun e w' => e = .returned (.bool true) ∧ Below w.heap.size w w' := by
  have h1 : Below w.heap.size w (w.alloc (.cells #[.bool neg, .slice A n c] 28)) := below_alloc1 _ _
  have hl := h.1
  obtain ⟨g1, g2, g3, g4⟩ := hg
  rw [hl] at g1 g3 g4
  have hall := Lib.hid (l1All_yes A n c w.heap.size 0 9999 xs _ (by omega) (h.below h1) g2)
  by_cases hn : n = 0
  · subst hn
    obtain rfl := g3 rfl
    clear g4 g2 g3 hl h
    go_enter Tryd.func10, Tryd.ntmps10
    go_wp2_with (go_at_call 20; refine (hall.out).mono ?_; rintro e w' ⟨rfl, rfl⟩)
    go_ret
    exact ⟨rfl, h1⟩
  · obtain ⟨b, o, rfl, hbs, hc⟩ := h.2 (by omega)
    have hread : (w.alloc (.cells #[.bool neg, .slice (some ⟨b, o, none⟩) n c] 28)).cell? ⟨b, o + (n - 1), none⟩ = some (.int .i64 (xs[n - 1]?.getD 0)) := (h1.cell (p := ⟨b, o + (n - 1), none⟩) hbs).trans (hc (n - 1) (by omega))
    have g5 := g4 (by omega)
    have hpos : 0 < n := by omega
    have e1 : ((n : Int) == 0) = false := by simp [hn]
    clear g4 g2 g3 hl h hc hn
    go_enter Tryd.func10, Tryd.ntmps10
    go_wp2_with (go_at_call 20; refine (hall.out).mono ?_; rintro e w' ⟨rfl, rfl⟩)
    go_ret
    exact ⟨rfl, h1⟩

set_option maxHeartbeats 1000000 in
theorem bgGood_no (neg : Bool) (A : Option Addr) (n c : Nat) (xs : List Int) (w : World) (hm : n ≤ 9223372036854775807) (h : Rd w w.heap.size A n xs) (hg : ¬ Good neg xs) :
    Calls Tryd.prog 10 #[.agg #[.bool neg, .slice A n c]] w fun e w' => e = .returned (.bool false) ∧ Below w.heap.size w w' := by
  have h1 : Below w.heap.size w (w.alloc (.cells #[.bool neg, .slice A n c] 28)) := below_alloc1 _ _
  have hl := h.1
  rcases Good.no hg with g | ⟨g1, g2⟩ | ⟨g1, rfl⟩ | ⟨g1, g2, g3, g4⟩
  · rw [hl] at g
    have d : decide ((n : Int) ≤ 400) = false := by simp; omega
    clear hl h hg
    go_enter Tryd.func10, Tryd.ntmps10
    go_wp2_with fail
    go_ret
    exact ⟨rfl, h1⟩
  · have hall := Lib.hid (l1All_no A n c w.heap.size 0 9999 xs _ hm (h.below h1) g2)
    rw [hl] at g1
    clear hl h hg g2
    go_enter Tryd.func10, Tryd.ntmps10
    go_wp2_with (go_at_call 20; refine (hall.out).mono ?_; rintro e w' ⟨rfl, rfl⟩)
    go_ret
    exact ⟨rfl, h1⟩
  · rw [hl] at g1
    subst g1
    have hall := Lib.hid (l1All_yes A 0 c w.heap.size 0 9999 xs _ hm (h.below h1) (fun k hk => by omega))
    clear hl h hg
    go_enter Tryd.func10, Tryd.ntmps10
    go_wp2_with (go_at_call 20; refine (hall.out).mono ?_; rintro e w' ⟨rfl, rfl⟩)
    go_ret
    exact ⟨rfl, h1⟩
  · have hall := Lib.hid (l1All_yes A n c w.heap.size 0 9999 xs _ hm (h.below h1) g3)
    rw [hl] at g1 g2 g4
    obtain ⟨b, o, rfl, hbs, hc⟩ := h.2 (by omega)
    have hread : (w.alloc (.cells #[.bool neg, .slice (some ⟨b, o, none⟩) n c] 28)).cell? ⟨b, o + (n - 1), none⟩ = some (.int .i64 (xs[n - 1]?.getD 0)) := (h1.cell (p := ⟨b, o + (n - 1), none⟩) hbs).trans (hc (n - 1) (by omega))
    have e1 : ((n : Int) == 0) = false := beq_eq_false_iff_ne.2 (by omega)
    have d : decide (0 < xs[n - 1]?.getD 0) = false := by simp only [decide_eq_false_iff_not]; omega
    clear hl h hg g3 hc
    go_enter Tryd.func10, Tryd.ntmps10
    go_wp2_with (go_at_call 20; refine (hall.out).mono ?_; rintro e w' ⟨rfl, rfl⟩)
    go_ret
    exact ⟨rfl, h1⟩

set_option maxHeartbeats 1000000 in
theorem isWholeI_yes (neg : Bool) (A : Option Addr) (n c : Nat) (xs : List Int) (w : World) (h : Rd w w.heap.size A n xs) (hg : Good neg xs) :
    Calls Tryd.prog 13 #[.agg #[.bool neg, .slice A n c]] w fun e w' => e = .returned (.bool true) ∧ Below w.heap.size w w' := by
  have h1 : Below w.heap.size w (w.alloc (.cells #[.bool neg, .slice A n c] 28)) := below_alloc1 _ _
  have hl := h.1
  obtain ⟨g1, g2, g3, g4⟩ := hg
  by_cases hn : n = 0
  · subst hn
    obtain rfl := g3 hl
    clear g4 g2 g3 hl h
    go_enter Tryd.func13, Tryd.ntmps13
    go_wp2
    go_ret
    exact ⟨rfl, h1⟩
  · obtain ⟨b, o, rfl, hbs, hc⟩ := h.2 (by omega)
    have hread : (w.alloc (.cells #[.bool neg, .slice (some ⟨b, o, none⟩) n c] 28)).cell? ⟨b, o + (n - 1), none⟩ = some (.int .i64 (xs[n - 1]?.getD 0)) := (h1.cell (p := ⟨b, o + (n - 1), none⟩) hbs).trans (hc (n - 1) (by omega))
    have g5 := g4 (by omega)
    rw [hl] at g5 g1
    have hpos : 0 < n := by omega
    have e1 : ((n : Int) == 0) = false := by simp [hn]
    have e2 : (xs[n - 1]?.getD 0 != 0) = true := by rw [bne_iff_ne]; omega
    have hl' := Lib.hid hl
    have hc' := Lib.hid hc
    have g2' := Lib.hid g2
    clear g4 g2 g3 hl h hc hn
    go_enter Tryd.func13, Tryd.ntmps13
    go_wp2
    go_loop [19] (fun i => ∃ k : Nat, k ≤ n ∧ i = .int .i64 k) (fun i => n - (intOf i).toNat)
    case atStart => exact ⟨0, Nat.zero_le _, rfl⟩
    case round =>
      obtain ⟨k, hk, rfl⟩ := hrel
      by_cases hlt : k < n
      · have hread2 : (w.alloc (.cells #[.bool neg, .slice (some ⟨b, o, none⟩) n c] 28)).cell? ⟨b, o + k, none⟩ = some (.int .i64 (xs[k]?.getD 0)) := (h1.cell (p := ⟨b, o + k, none⟩) hbs).trans (hc'.out k hlt)
        obtain ⟨r1, r2⟩ := g2'.out k (by rw [hl'.out]; exact hlt)
        go_wp2
        go_round
        case rel => exact ⟨k + 1, by omega, by go_num⟩
        case measure => simp [intOf]; omega
      · go_wp2
        go_ret
        exact ⟨rfl, h1⟩

set_option maxHeartbeats 1000000 in
theorem isWholeI_no (neg : Bool) (A : Option Addr) (n c : Nat) (xs : List Int) (w : World) (hm : n ≤ 9223372036854775807) (h : Rd w w.heap.size A n xs) (hg : ¬ Good neg xs) :
    Calls Tryd.prog 13 #[.agg #[.bool neg, .slice A n c]] w fun e w' => e = .returned (.bool false) ∧ Below w.heap.size w w' := by
  have h1 : Below w.heap.size w (w.alloc (.cells #[.bool neg, .slice A n c] 28)) := below_alloc1 _ _
  have hl := h.1
  rcases Good.no hg with g | ⟨g1, g2⟩ | ⟨g1, rfl⟩ | ⟨g1, g2, g3, g4⟩
  · rw [hl] at g
    clear hl h hg
    go_enter Tryd.func13, Tryd.ntmps13
    go_wp2
    go_ret
    exact ⟨rfl, h1⟩
  · obtain ⟨j, hj, hbad, hgood⟩ := Rng.first g2
    rw [hl] at hj g1
    obtain ⟨b, o, rfl, hbs, hc⟩ := h.2 (by omega)
    have e1 : ((n : Int) == 0) = false := beq_eq_false_iff_ne.2 (by omega)
    have hc' := Lib.hid hc
    have hgood' := Lib.hid hgood
    clear hl h hg g2 hc hgood
    go_enter Tryd.func13, Tryd.ntmps13
    go_wp2
    go_loop [19] (fun i => ∃ k : Nat, k ≤ j ∧ i = .int .i64 k) (fun i => n - (intOf i).toNat)
    case atStart => exact ⟨0, Nat.zero_le _, rfl⟩
    case round =>
      obtain ⟨k, hk, rfl⟩ := hrel
      have hlt : k < n := by omega
      have hread2 : (w.alloc (.cells #[.bool neg, .slice (some ⟨b, o, none⟩) n c] 28)).cell? ⟨b, o + k, none⟩ = some (.int .i64 (xs[k]?.getD 0)) := (h1.cell (p := ⟨b, o + k, none⟩) hbs).trans (hc'.out k hlt)
      by_cases he : k = j
      · subst he
        rcases hbad with hbad | hbad
        · go_wp2
          go_ret
          exact ⟨rfl, h1⟩
        · have d1 : decide (xs[k]?.getD 0 < 0) = false := by simp only [decide_eq_false_iff_not]; omega
          have d2 : decide (10000 ≤ xs[k]?.getD 0) = true := by simp only [decide_eq_true_eq]; omega
          go_wp2
          go_ret
          exact ⟨rfl, h1⟩
      · obtain ⟨r1, r2⟩ := hgood'.out k (by omega)
        clear hbad
        go_wp2
        go_round
        case rel => exact ⟨k + 1, by omega, by go_num⟩
        case measure => simp [intOf]; omega
  · rw [hl] at g1
    subst g1
    clear hl h hg
    go_enter Tryd.func13, Tryd.ntmps13
    go_wp2
    go_ret
    exact ⟨rfl, h1⟩
  · rw [hl] at g1 g2 g4
    obtain ⟨b, o, rfl, hbs, hc⟩ := h.2 (by omega)
    have hread : (w.alloc (.cells #[.bool neg, .slice (some ⟨b, o, none⟩) n c] 28)).cell? ⟨b, o + (n - 1), none⟩ = some (.int .i64 (xs[n - 1]?.getD 0)) := (h1.cell (p := ⟨b, o + (n - 1), none⟩) hbs).trans (hc (n - 1) (by omega))
    have e1 : ((n : Int) == 0) = false := beq_eq_false_iff_ne.2 (by omega)
    have g5 := (g3 (n - 1) (by rw [hl]; omega)).1
    have e2 : (xs[n - 1]?.getD 0 != 0) = false := bne_eq_false_iff_eq.2 (by omega)
    have hl' := Lib.hid hl
    have hc' := Lib.hid hc
    have g2' := Lib.hid g3
    clear g4 g3 hl h hc hg g5
    go_enter Tryd.func13, Tryd.ntmps13
    go_wp2
    go_loop [19] (fun i => ∃ k : Nat, k ≤ n ∧ i = .int .i64 k) (fun i => n - (intOf i).toNat)
    case atStart => exact ⟨0, Nat.zero_le _, rfl⟩
    case round =>
      obtain ⟨k, hk, rfl⟩ := hrel
      by_cases hlt : k < n
      · have hread2 : (w.alloc (.cells #[.bool neg, .slice (some ⟨b, o, none⟩) n c] 28)).cell? ⟨b, o + k, none⟩ = some (.int .i64 (xs[k]?.getD 0)) := (h1.cell (p := ⟨b, o + k, none⟩) hbs).trans (hc'.out k hlt)
        obtain ⟨r1, r2⟩ := g2'.out k (by rw [hl'.out]; exact hlt)
        go_wp2
        go_round
        case rel => exact ⟨k + 1, by omega, by go_num⟩
        case measure => simp [intOf]; omega
      · go_wp2
        go_ret
        exact ⟨rfl, h1⟩
end Go.Proofs.YtllbbfkgobhcgaaDoor
