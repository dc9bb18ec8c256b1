/- ecRoots, OrderTwoAt of the model and of the program (written by wip/gen/ecroots.py). -/
import Derived.Test.YtmknmjkcnlennaaEcS
import Derived.Test.YtmknmjkcnlennaaEcI
import Derived.Test.YtmknmjkcnlennaaRsPrimes
namespace Go.Proofs.Ytmknmjkcnlennaa
open Go.RowKit Go.Joins

/-- A call that hands back a new row. -/
def GivesRow (w : World) (xs : List Int) (e : Ending) (w' : World) : Prop :=
  ∃ A c, e = .returned (.slice A xs.length c) ∧ Own w' w.heap.size (.slice A xs.length c) xs ∧ Below w.heap.size w w'

theorem Box.own_aside {w w' : World} {g lo : Nat} {t : TypeId} {cs : Array Value} {v : Value} {xs : List Int} (h : Box w g t cs) (h' : Own w lo v xs) (hg : w.grownBy w' v.ownBlock) (ht : t ≠ 3) : Box w' g t cs :=
  h.aside h'.I hg ht

set_option maxHeartbeats 2000000 in
theorem ecRoots_any (a b : Int) (w : World) (ha : -1000 ≤ a ∧ a ≤ 1000) (hb : -10000 ≤ b ∧ b ≤ 10000) : Calls Try.prog 48 #[.agg #[.int .i64 a, .int .i64 b]] w (GivesRow w (ecL a b (-100) 201)) := by
  have key := fun (x : Int) W (h1 : -1000000 ≤ x) (h2 : x ≤ 1000000) => ecValue_any a b x W ha hb ⟨h1, h2⟩ _ rfl
  replace key := Lib.hid key
  clear ha hb
  have h := Below.refl w.heap.size w
  have hA := below_alloc1 w (.cells #[.int .i64 a, .int .i64 b] 25)
  have hx0 := Box.new w 25 #[.int .i64 a, .int .i64 b]
  replace h := Below.step h hA
  clear hA
  obtain ⟨k00, k01⟩ := hx0.two
  have l0 := hx0.lt
  go_enter Try.func48, Try.ntmps48
  go_wp2_with fail
  go_loopw [3, 4] (fun v x wr => ∃ (j : Nat) (A : Option Addr) (c : Nat), j ≤ 201 ∧ x = .int .i64 (-100 + (j : Int)) ∧ v = .slice A (ecL a b (-100) j).length c ∧ Own wr w.heap.size (.slice A (ecL a b (-100) j).length c) (ecL a b (-100) j) ∧ Below w.heap.size w wr ∧ Box wr w.heap.size 25 #[.int .i64 a, .int .i64 b]) (fun _ x _ => 300 - (intOf x + 100).toNat)
  case atStart => exact ⟨0, none, 0, by omega, rfl, rfl, own_nil _ _, h, hx0⟩
  case round =>
    obtain ⟨j, A, c, hj, rfl, rfl, hown, hbw, hxw⟩ := hrel
    have hlen := ecL_len a b (-100) j
    by_cases hlt : j < 201
    · have c1 := fun W => key.out (-100 + (j : Int)) W (by omega) (by omega)
      by_cases hz : ecV a b (-100 + (j : Int)) = 0
      · have hl := ecL_yes hz
        rw [hz] at c1
        obtain ⟨L, hL⟩ : ∃ L, L = ecL a b (-100) j := ⟨_, rfl⟩
        rw [← hL] at hown hlen hl ⊢
        replace hl := Lib.hid hl
        replace c1 := Lib.hid c1
        clear hL hz key
        obtain ⟨k0, k1⟩ := hxw.two
        go_wp2_with fail
        refine (c1.out _).mono ?_
        rintro e w5 ⟨rfl, hb⟩
        replace hbw := Below.step hbw hb
        replace hown := hown.kept hb
        replace hxw := hxw.kept hb
        clear hb k0 k1
        have hsz : w.heap.size ≤ (w5.alloc (.cells #[.int .i64 (-100 + (j : Int))] 3)).heap.size := by have := hbw.size; simp; omega
        have hrd := rd_new w5 (-100 + (j : Int))
        have hoa := hown.alloc (.cells #[.int .i64 (-100 + (j : Int))] 3)
        have hba : Below w.heap.size w (w5.alloc (.cells #[.int .i64 (-100 + (j : Int))] 3)) := hbw.alloc hbw.size _
        have hxa := hxw.kept (below_alloc1 w5 (.cells #[.int .i64 (-100 + (j : Int))] 3))
        clear hxw
        have hlen2 : L.length + 1 ≤ 17592186044416 := by omega
        clear hown hbw
        go_wp2_with (first
          | (at_builtin; refine wpList_append_rd _ rfl _ _ 43 rfl Try.underlying43 Try.info3 w.heap.size _ L rfl hoa _ _ _ _ [-100 + (j : Int)] rfl hrd hlen2 hsz ?_; intro A' c' w1' hown1 hg1)
          | fail)
        have hb1 := below_own hba hoa (Nat.le_refl _) hg1
        have hx1 := hxa.own_aside hoa hg1 (by decide)
        have hll : L.length + 1 = (ecL a b (-100) (j + 1)).length := by rw [← hl.out, List.length_append]; rfl
        rw [hl.out] at hown1
        rw [hll]
        clear hll
        go_roundw
        case rel => exact ⟨j + 1, A', c', by omega, by go_num, rfl, hown1, hb1, hx1⟩
        case measure => simp [intOf]; omega
      · have hl := ecL_no hz
        obtain ⟨V', hV'⟩ : ∃ V', ecV a b (-100 + (j : Int)) = V' := ⟨_, rfl⟩
        rw [hV'] at c1 hz
        have ez : (V' == 0) = false := beq_eq_false_iff_ne.2 hz
        clear hV' hz
        obtain ⟨L, hL⟩ : ∃ L, L = ecL a b (-100) j := ⟨_, rfl⟩
        rw [← hL] at hown hlen hl ⊢
        replace hl := Lib.hid hl
        replace c1 := Lib.hid c1
        clear hL key
        obtain ⟨k0, k1⟩ := hxw.two
        go_wp2_with fail
        refine (c1.out _).mono ?_
        rintro e w5 ⟨rfl, hb⟩
        replace hbw := Below.step hbw hb
        replace hown := hown.kept hb
        replace hxw := hxw.kept hb
        clear hb k0 k1
        go_wp2_with fail
        rw [hl.out] at hown ⊢
        go_roundw
        case rel => exact ⟨j + 1, A, c, by omega, by go_num, rfl, hown, hbw, hxw⟩
        case measure => simp [intOf]; omega
    · obtain rfl : j = 201 := by omega
      clear hlt hlen
      obtain ⟨k0, k1⟩ := hxw.two
      go_wp2_with fail
      go_ret
      exact ⟨A, c, rfl, hown, hbw⟩


set_option maxHeartbeats 1000000 in
theorem rootsS_yes (a b : Int) (w : World) (g : EcG a b) : Calls Try.prog 29 #[.agg #[.int .i64 a, .int .i64 b]] w (GivesRowOk w (ecL a b (-100) 201) true) := by
  have key := fun W => ecRoots_any a b W g.1 g.2.1
  obtain ⟨L, hL⟩ : ∃ L, L = ecL a b (-100) 201 := ⟨_, rfl⟩
  rw [← hL] at key ⊢
  replace key := Lib.hid key
  clear hL
  have h := Below.refl w.heap.size w
  have hA := below_alloc1 w (.cells #[.int .i64 a, .int .i64 b] 25)
  have hx0 := Box.new w 25 #[.int .i64 a, .int .i64 b]
  replace h := Below.step h hA
  clear hA
  obtain ⟨k00, k01⟩ := hx0.two
  have l0 := hx0.lt
  go_enter Try.func29, Try.ntmps29
  go_wp2_with fail
  refine (ecGood_yes a b _ g).mono ?_
  rintro e w1 ⟨rfl, hb⟩
  replace h := Below.step h hb
  replace hx0 := hx0.kept hb
  clear hb k00 k01 l0
  obtain ⟨k00, k01⟩ := hx0.two
  have l0 := hx0.lt
  go_wp2_with fail
  have hsz := h.size
  refine (key.out _).mono ?_
  rintro e w2 ⟨A, c, rfl, hown, hb⟩
  replace h := Below.step h hb
  replace hx0 := hx0.kept hb
  clear hb k00 k01 l0
  obtain ⟨k00, k01⟩ := hx0.two
  have l0 := hx0.lt
  go_wp2_with fail
  go_ret2
  exact ⟨A, c, rfl, hown.le hsz, h⟩


set_option maxHeartbeats 1000000 in
theorem rootsS_bad (a b : Int) (w : World) (g : ¬ EcG a b) : Calls Try.prog 29 #[.agg #[.int .i64 a, .int .i64 b]] w (GivesRowOk w [] false) := by
  have h := Below.refl w.heap.size w
  have hA := below_alloc1 w (.cells #[.int .i64 a, .int .i64 b] 25)
  have hx0 := Box.new w 25 #[.int .i64 a, .int .i64 b]
  replace h := Below.step h hA
  clear hA
  obtain ⟨k00, k01⟩ := hx0.two
  have l0 := hx0.lt
  go_enter Try.func29, Try.ntmps29
  go_wp2_with fail
  refine (ecGood_no a b _ g).mono ?_
  rintro e w1 ⟨rfl, hb⟩
  replace h := Below.step h hb
  replace hx0 := hx0.kept hb
  clear hb k00 k01 l0
  obtain ⟨k00, k01⟩ := hx0.two
  have l0 := hx0.lt
  go_wp2_with fail
  go_ret2
  exact ⟨none, 0, rfl, own_nil _ _, h⟩


set_option maxHeartbeats 2000000 in
theorem rootsI_yes (a b : Int) (w : World) (g : EcG a b) : Calls Try.prog 30 #[.agg #[.int .i64 a, .int .i64 b]] w (GivesRowOk w (ecL a b (-35) 71) true) := by
  have g' := g
  obtain ⟨ha, hb, -⟩ := g'
  obtain ⟨T, V, fc, fa, hF, hf⟩ := formOf_any a b ha hb
  have n1 := hF.na
  have m1 := hF.ma
  have e1 := hF.ea
  have c0 := hF.ca
  replace c0 := Lib.hid c0
  replace hf := Lib.hid hf
  clear hF ha hb
  have h := Below.refl w.heap.size w
  have hA := below_alloc1 w (.cells #[.int .i64 a, .int .i64 b] 25)
  have hx0 := Box.new w 25 #[.int .i64 a, .int .i64 b]
  replace h := Below.step h hA
  clear hA
  obtain ⟨k00, k01⟩ := hx0.two
  have l0 := hx0.lt
  go_enter Try.func30, Try.ntmps30
  go_wp2_with fail
  refine (isCurveI_yes a b _ g).mono ?_
  rintro e w1 ⟨rfl, hb⟩
  replace h := Below.step h hb
  replace hx0 := hx0.kept hb
  clear hb k00 k01 l0
  obtain ⟨k00, k01⟩ := hx0.two
  have l0 := hx0.lt
  go_wp2_with fail
  refine (hf.out _).mono ?_
  rintro e w2 ⟨rfl, hb⟩
  replace h := Below.step h hb
  replace hx0 := hx0.kept hb
  clear hb k00 k01 l0
  obtain ⟨k00, k01⟩ := hx0.two
  have l0 := hx0.lt
  clear k00 k01 l0
  go_wp2_with fail
  go_loopw [5, 6] (fun v x wr => ∃ (j : Nat) (A : Option Addr) (c : Nat), j ≤ 71 ∧ x = .int .i64 (-35 + (j : Int)) ∧ v = .slice A (ecL a b (-35) j).length c ∧ Own wr w.heap.size (.slice A (ecL a b (-35) j).length c) (ecL a b (-35) j) ∧ Below w.heap.size w wr) (fun _ x _ => 300 - (intOf x + 100).toNat)
  case atStart => exact ⟨0, none, 0, by omega, rfl, rfl, own_nil _ _, h⟩
  case round =>
    obtain ⟨j, A, c, hj, rfl, rfl, hown, hbw⟩ := hrel
    have hlen := ecL_len a b (-35) j
    by_cases hlt : j < 71
    · have c1 := fun W => c0.out (-35 + (j : Int)) W (by omega) (by omega)
      by_cases hz : ecV a b (-35 + (j : Int)) = 0
      · have hl := ecL_yes hz
        rw [hz] at c1
        obtain ⟨L, hL⟩ : ∃ L, L = ecL a b (-35) j := ⟨_, rfl⟩
        rw [← hL] at hown hlen hl ⊢
        replace hl := Lib.hid hl
        replace c1 := Lib.hid c1
        clear hL hz c0
        go_wp2_with fail
        refine (c1.out _).mono ?_
        rintro e w5 ⟨rfl, hb⟩
        replace hbw := Below.step hbw hb
        replace hown := hown.kept hb
        clear hb
        have hsz : w.heap.size ≤ (w5.alloc (.cells #[.int .i64 (-35 + (j : Int))] 3)).heap.size := by have := hbw.size; simp; omega
        have hrd := rd_new w5 (-35 + (j : Int))
        have hoa := hown.alloc (.cells #[.int .i64 (-35 + (j : Int))] 3)
        have hba : Below w.heap.size w (w5.alloc (.cells #[.int .i64 (-35 + (j : Int))] 3)) := hbw.alloc hbw.size _
        have hlen2 : L.length + 1 ≤ 17592186044416 := by omega
        clear hown hbw
        go_wp2_with (first
          | (at_builtin; refine wpList_append_rd _ rfl _ _ 43 rfl Try.underlying43 Try.info3 w.heap.size _ L rfl hoa _ _ _ _ [-35 + (j : Int)] rfl hrd hlen2 hsz ?_; intro A' c' w1' hown1 hg1)
          | fail)
        have hb1 := below_own hba hoa (Nat.le_refl _) hg1
        have hll : L.length + 1 = (ecL a b (-35) (j + 1)).length := by rw [← hl.out, List.length_append]; rfl
        rw [hl.out] at hown1
        rw [hll]
        clear hll
        go_roundw
        case rel => exact ⟨j + 1, A', c', by omega, by go_num, rfl, hown1, hb1⟩
        case measure => simp [intOf]; omega
      · have hl := ecL_no hz
        obtain ⟨V', hV'⟩ : ∃ V', ecV a b (-35 + (j : Int)) = V' := ⟨_, rfl⟩
        rw [hV'] at c1 hz
        have ez : (V' == 0) = false := beq_eq_false_iff_ne.2 hz
        clear hV' hz
        obtain ⟨L, hL⟩ : ∃ L, L = ecL a b (-35) j := ⟨_, rfl⟩
        rw [← hL] at hown hlen hl ⊢
        replace hl := Lib.hid hl
        replace c1 := Lib.hid c1
        clear hL c0
        go_wp2_with fail
        refine (c1.out _).mono ?_
        rintro e w5 ⟨rfl, hb⟩
        replace hbw := Below.step hbw hb
        replace hown := hown.kept hb
        clear hb
        go_wp2_with fail
        rw [hl.out] at hown ⊢
        go_roundw
        case rel => exact ⟨j + 1, A, c, by omega, by go_num, rfl, hown, hbw⟩
        case measure => simp [intOf]; omega
    · obtain rfl : j = 71 := by omega
      clear hlt hlen
      go_wp2_with fail
      go_ret2
      exact ⟨A, c, rfl, hown, hbw⟩


set_option maxHeartbeats 1000000 in
theorem rootsI_bad (a b : Int) (w : World) (g : ¬ EcG a b) : Calls Try.prog 30 #[.agg #[.int .i64 a, .int .i64 b]] w (GivesRowOk w [] false) := by
  have h := Below.refl w.heap.size w
  have hA := below_alloc1 w (.cells #[.int .i64 a, .int .i64 b] 25)
  have hx0 := Box.new w 25 #[.int .i64 a, .int .i64 b]
  replace h := Below.step h hA
  clear hA
  obtain ⟨k00, k01⟩ := hx0.two
  have l0 := hx0.lt
  go_enter Try.func30, Try.ntmps30
  go_wp2_with fail
  refine (isCurveI_no a b _ g).mono ?_
  rintro e w1 ⟨rfl, hb⟩
  replace h := Below.step h hb
  replace hx0 := hx0.kept hb
  clear hb k00 k01 l0
  obtain ⟨k00, k01⟩ := hx0.two
  have l0 := hx0.lt
  go_wp2_with fail
  go_ret2
  exact ⟨none, 0, rfl, own_nil _ _, h⟩

end Go.Proofs.Ytmknmjkcnlennaa
