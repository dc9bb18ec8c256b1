/- Good primes of both sides; curves modulo them (written by wip/gen/fmg.py). -/
import Derived.Test.YtbgoiflkpefckaaFmI1
import Derived.Deep.RegionHeld3
import Derived.Deep.DeepCutAuto
namespace Go.Proofs.Ytbgoiflkpefckaa
open Go.RowKit Go.Joins

/-- p is a good prime up to M. -/
def Gd (a b p : Int) (M : Nat) : Prop := ∃ q : Nat, p = q ∧ FG a b q ∧ q ≤ M
theorem Gd.nat {a b : Int} {q M : Nat} (h : Gd a b q M) : FG a b q ∧ q ≤ M := by
  obtain ⟨x, h1, h2, h3⟩ := h
  obtain rfl : q = x := by omega
  exact ⟨h2, h3⟩

set_option maxHeartbeats 1000000 in
set_option maxRecDepth 100000 in
theorem goodS_c (a b p : Int) (w : World) (g : ¬ EcG a b) : Calls Try.prog 43 #[.agg #[.int .i64 a, .int .i64 b], .int .i64 p] w (GivesB w false) := by
  have h := Below.refl w.heap.size w
  have hA := below_alloc1 w (.cells #[.int .i64 a, .int .i64 b] 26)
  have hx0 := Box.new w 26 #[.int .i64 a, .int .i64 b]
  replace h := Below.step h hA
  clear hA
  obtain ⟨k00, k01⟩ := hx0.two
  have l0 := hx0.lt
  go_enter Try.func43, Try.ntmps43
  go_wp2_with fail
  refine (ecGood_no a b _ g).mono ?_
  rintro e w1 ⟨rfl, hb⟩
  replace h := Below.step h hb
  replace hx0 := hx0.kept hb
  clear hb k00 k01 l0
  obtain ⟨k00, k01⟩ := hx0.two
  have l0 := hx0.lt
  go_wp2_with fail
  go_ret
  exact ⟨rfl, h⟩


set_option maxHeartbeats 1000000 in
set_option maxRecDepth 100000 in
theorem goodS_p (a b p : Int) (w : World) (g : EcG a b) (hp : ¬ IsP p) : Calls Try.prog 43 #[.agg #[.int .i64 a, .int .i64 b], .int .i64 p] w (GivesB w false) := by
  have c1 := fun W => mdPrime_all p W false ⟨fun e => (by cases e), fun e => absurd e hp⟩
  replace c1 := Lib.hid c1
  clear hp
  have h := Below.refl w.heap.size w
  have hA := below_alloc1 w (.cells #[.int .i64 a, .int .i64 b] 26)
  have hx0 := Box.new w 26 #[.int .i64 a, .int .i64 b]
  replace h := Below.step h hA
  clear hA
  obtain ⟨k00, k01⟩ := hx0.two
  have l0 := hx0.lt
  go_enter Try.func43, Try.ntmps43
  go_wp2_with fail
  refine (ecGood_yes a b _ g).mono ?_
  rintro e w1 ⟨rfl, hb⟩
  replace h := Below.step h hb
  replace hx0 := hx0.kept hb
  clear hb k00 k01 l0
  obtain ⟨k00, k01⟩ := hx0.two
  have l0 := hx0.lt
  go_wp2_with fail
  refine (c1.out _).mono ?_
  rintro e w2 ⟨rfl, rfl⟩
  go_wp2_with fail
  go_ret
  exact ⟨rfl, h⟩


set_option maxHeartbeats 1000000 in
set_option maxRecDepth 100000 in
theorem goodS_5 (a b : Int) (q : Nat) (w : World) (g : EcG a b) (hp : Pr q) (h9 : q ≤ 997) (h5 : q < 5) : Calls Try.prog 43 #[.agg #[.int .i64 a, .int .i64 b], .int .i64 (q : Int)] w (GivesB w false) := by
  have c1 := fun W => mdPrime_all (q : Int) W true ⟨fun _ => IsP.nat.2 ⟨hp, h9⟩, fun _ => rfl⟩
  replace c1 := Lib.hid c1
  have d5 : decide ((5 : Int) ≤ q) = false := decide_eq_false (by omega)
  clear hp
  have h := Below.refl w.heap.size w
  have hA := below_alloc1 w (.cells #[.int .i64 a, .int .i64 b] 26)
  have hx0 := Box.new w 26 #[.int .i64 a, .int .i64 b]
  replace h := Below.step h hA
  clear hA
  obtain ⟨k00, k01⟩ := hx0.two
  have l0 := hx0.lt
  go_enter Try.func43, Try.ntmps43
  go_wp2_with fail
  refine (ecGood_yes a b _ g).mono ?_
  rintro e w1 ⟨rfl, hb⟩
  replace h := Below.step h hb
  replace hx0 := hx0.kept hb
  clear hb k00 k01 l0
  obtain ⟨k00, k01⟩ := hx0.two
  have l0 := hx0.lt
  go_wp2_with fail
  refine (c1.out _).mono ?_
  rintro e w2 ⟨rfl, rfl⟩
  go_wp2_with fail
  go_ret
  exact ⟨rfl, h⟩


set_option maxHeartbeats 1000000 in
set_option maxRecDepth 100000 in
theorem goodS_q (a b : Int) (q : Nat) (w : World) (g : EcG a b) (hp : Pr q) (h9 : q ≤ 997) (h5 : 5 ≤ q) (B : Bool) (hB : B = decide (rs q (ecD a b) ≠ 0)) : Calls Try.prog 43 #[.agg #[.int .i64 a, .int .i64 b], .int .i64 (q : Int)] w (GivesB w B) := by
  have c1 := fun W => mdPrime_all (q : Int) W true ⟨fun _ => IsP.nat.2 ⟨hp, h9⟩, fun _ => rfl⟩
  replace c1 := Lib.hid c1
  have d5 : decide ((5 : Int) ≤ q) = true := decide_eq_true (by omega)
  have hl := ecD_le g
  have c2 := fun W => ecDisc_any a b W g.1 g.2.1 (ecD a b) rfl
  have c3 := fun W => smod_any (ecD a b) q W ⟨by omega, by omega⟩ (by omega) h9
  obtain ⟨R, hR⟩ : ∃ R, R = rs q (ecD a b) := ⟨_, rfl⟩
  obtain ⟨D, hD⟩ : ∃ D, D = ecD a b := ⟨_, rfl⟩
  rw [← hR] at c3 hB
  rw [← hD] at c2 c3
  have eB : ((R : Int) != 0) = B := by rw [hB]; by_cases e : R = 0 <;> simp [e] <;> omega
  replace c2 := Lib.hid c2
  replace c3 := Lib.hid c3
  clear hp hR hD hB hl
  have h := Below.refl w.heap.size w
  have hA := below_alloc1 w (.cells #[.int .i64 a, .int .i64 b] 26)
  have hx0 := Box.new w 26 #[.int .i64 a, .int .i64 b]
  replace h := Below.step h hA
  clear hA
  obtain ⟨k00, k01⟩ := hx0.two
  have l0 := hx0.lt
  go_enter Try.func43, Try.ntmps43
  go_wp2_with fail
  refine (ecGood_yes a b _ g).mono ?_
  rintro e w1 ⟨rfl, hb⟩
  replace h := Below.step h hb
  replace hx0 := hx0.kept hb
  clear hb k00 k01 l0
  obtain ⟨k00, k01⟩ := hx0.two
  have l0 := hx0.lt
  go_wp2_with fail
  refine (c1.out _).mono ?_
  rintro e w2 ⟨rfl, rfl⟩
  go_wp2_with fail
  refine (c2.out _).mono ?_
  rintro e w3 ⟨rfl, hb⟩
  replace h := Below.step h hb
  replace hx0 := hx0.kept hb
  clear hb k00 k01 l0
  obtain ⟨k00, k01⟩ := hx0.two
  have l0 := hx0.lt
  go_wp2_with fail
  refine (c3.out _).mono ?_
  rintro e w4 ⟨rfl, rfl⟩
  go_wp2_with fail
  go_ret
  exact ⟨rfl, h⟩


theorem rs_ne {q : Nat} (hq : 0 < q) (z : Int) : rs q z ≠ 0 ↔ z % q ≠ 0 := by
  have := rs_cast hq z
  omega
theorem goodS_any (a b p : Int) (w : World) (B : Bool) (hB : B = true ↔ Gd a b p 997) : Calls Try.prog 43 #[.agg #[.int .i64 a, .int .i64 b], .int .i64 p] w (GivesB w B) := by
  have no : ¬ Gd a b p 997 → B = false := fun h => by
    cases B
    · rfl
    · exact absurd (hB.1 rfl) h
  by_cases g : EcG a b
  · by_cases hp : IsP p
    · obtain ⟨q, rfl, hp, h9⟩ := hp
      by_cases h5 : 5 ≤ q
      · refine goodS_q a b q w g hp h9 h5 B ?_
        by_cases hd : rs q (ecD a b) ≠ 0
        · rw [decide_eq_true hd, hB]
          exact ⟨q, rfl, ⟨hp, h5, h9, g, (rs_ne (by omega) _).1 hd⟩, h9⟩
        · rw [decide_eq_false hd]
          exact no fun h => hd ((rs_ne (by omega) _).2 h.nat.1.d)
      · rw [no fun h => h5 h.nat.1.five]; exact goodS_5 a b q w g hp h9 (by omega)
    · rw [no fun ⟨q, h1, h2, h3⟩ => hp (h1 ▸ IsP.nat.2 ⟨h2.pr, h3⟩)]; exact goodS_p a b p w g hp
  · rw [no fun ⟨q, h1, h2, h3⟩ => g h2.g]; exact goodS_c a b p w g

set_option maxHeartbeats 1000000 in
set_option maxRecDepth 100000 in
theorem smallS_no (a b p : Int) (w : World) (key : ∀ W : World, Calls Try.prog 43 #[.agg #[.int .i64 a, .int .i64 b], .int .i64 p] W (GivesB W false)) : Calls Try.prog 50 #[.agg #[.int .i64 a, .int .i64 b], .int .i64 p] w (GivesB w false) := by
  replace key := Lib.hid key
  have h := Below.refl w.heap.size w
  have hA := below_alloc1 w (.cells #[.int .i64 a, .int .i64 b] 26)
  have hx0 := Box.new w 26 #[.int .i64 a, .int .i64 b]
  replace h := Below.step h hA
  clear hA
  obtain ⟨k00, k01⟩ := hx0.two
  have l0 := hx0.lt
  go_enter Try.func50, Try.ntmps50
  go_wp2_with fail
  refine (key.out _).mono ?_
  rintro e w1 ⟨rfl, hb⟩
  replace h := Below.step h hb
  replace hx0 := hx0.kept hb
  clear hb k00 k01 l0
  obtain ⟨k00, k01⟩ := hx0.two
  have l0 := hx0.lt
  go_wp2_with fail
  go_ret
  exact ⟨rfl, h⟩


set_option maxHeartbeats 1000000 in
set_option maxRecDepth 100000 in
theorem smallS_yes (a b p : Int) (w : World) (key : ∀ W : World, Calls Try.prog 43 #[.agg #[.int .i64 a, .int .i64 b], .int .i64 p] W (GivesB W true)) : Calls Try.prog 50 #[.agg #[.int .i64 a, .int .i64 b], .int .i64 p] w (GivesB w (decide (p ≤ 199))) := by
  replace key := Lib.hid key
  have h := Below.refl w.heap.size w
  have hA := below_alloc1 w (.cells #[.int .i64 a, .int .i64 b] 26)
  have hx0 := Box.new w 26 #[.int .i64 a, .int .i64 b]
  replace h := Below.step h hA
  clear hA
  obtain ⟨k00, k01⟩ := hx0.two
  have l0 := hx0.lt
  go_enter Try.func50, Try.ntmps50
  go_wp2_with fail
  refine (key.out _).mono ?_
  rintro e w1 ⟨rfl, hb⟩
  replace h := Below.step h hb
  replace hx0 := hx0.kept hb
  clear hb k00 k01 l0
  obtain ⟨k00, k01⟩ := hx0.two
  have l0 := hx0.lt
  go_wp2_with fail
  go_ret
  exact ⟨rfl, h⟩


theorem smallS_any (a b p : Int) (w : World) (B : Bool) (hB : B = true ↔ Gd a b p 199) : Calls Try.prog 50 #[.agg #[.int .i64 a, .int .i64 b], .int .i64 p] w (GivesB w B) := by
  have no : ¬ Gd a b p 199 → B = false := fun h => by
    cases B
    · rfl
    · exact absurd (hB.1 rfl) h
  by_cases h : Gd a b p 997
  · have := smallS_yes a b p w fun W => goodS_any a b p W true ⟨fun _ => h, fun _ => rfl⟩
    obtain ⟨q, rfl, hq, h9⟩ := h
    by_cases hs : (q : Int) ≤ 199
    · rw [decide_eq_true hs] at this
      rw [hB.2 ⟨q, rfl, hq, by omega⟩]; exact this
    · rw [decide_eq_false hs] at this
      rw [no fun k => hs (by have := k.nat.2; omega)]; exact this
  · rw [no fun ⟨q, h1, h2, h3⟩ => h ⟨q, h1, h2, h2.le⟩]
    exact smallS_no a b p w fun W => goodS_any a b p W false ⟨fun e => (by cases e), fun e => absurd e h⟩

set_option maxHeartbeats 1000000 in
set_option maxRecDepth 100000 in
theorem isGoodS_c (a b p : Int) (w : World) (g : ¬ EcG a b) : Calls Try.prog 13 #[.agg #[.int .i64 a, .int .i64 b], .int .i64 p] w (GivesBB w false false) := by
  have h := Below.refl w.heap.size w
  have hA := below_alloc1 w (.cells #[.int .i64 a, .int .i64 b] 26)
  have hx0 := Box.new w 26 #[.int .i64 a, .int .i64 b]
  replace h := Below.step h hA
  clear hA
  obtain ⟨k00, k01⟩ := hx0.two
  have l0 := hx0.lt
  go_enter Try.func13, Try.ntmps13
  go_wp2_with fail
  refine (ecGood_no a b _ g).mono ?_
  rintro e w1 ⟨rfl, hb⟩
  replace h := Below.step h hb
  replace hx0 := hx0.kept hb
  clear hb k00 k01 l0
  obtain ⟨k00, k01⟩ := hx0.two
  have l0 := hx0.lt
  go_wp2_with fail
  go_ret2
  exact ⟨rfl, h⟩


set_option maxHeartbeats 1000000 in
set_option maxRecDepth 100000 in
theorem isGoodS_p (a b p : Int) (w : World) (g : EcG a b) (hp : ¬ IsP p) : Calls Try.prog 13 #[.agg #[.int .i64 a, .int .i64 b], .int .i64 p] w (GivesBB w false false) := by
  have c1 := fun W => mdPrime_all p W false ⟨fun e => (by cases e), fun e => absurd e hp⟩
  replace c1 := Lib.hid c1
  clear hp
  have h := Below.refl w.heap.size w
  have hA := below_alloc1 w (.cells #[.int .i64 a, .int .i64 b] 26)
  have hx0 := Box.new w 26 #[.int .i64 a, .int .i64 b]
  replace h := Below.step h hA
  clear hA
  obtain ⟨k00, k01⟩ := hx0.two
  have l0 := hx0.lt
  go_enter Try.func13, Try.ntmps13
  go_wp2_with fail
  refine (ecGood_yes a b _ g).mono ?_
  rintro e w1 ⟨rfl, hb⟩
  replace h := Below.step h hb
  replace hx0 := hx0.kept hb
  clear hb k00 k01 l0
  obtain ⟨k00, k01⟩ := hx0.two
  have l0 := hx0.lt
  go_wp2_with fail
  refine (c1.out _).mono ?_
  rintro e w2 ⟨rfl, rfl⟩
  go_wp2_with fail
  go_ret2
  exact ⟨rfl, h⟩


set_option maxHeartbeats 1000000 in
set_option maxRecDepth 100000 in
theorem isGoodS_q (a b p : Int) (w : World) (g : EcG a b) (hp : IsP p) (B : Bool) (hB : B = true ↔ Gd a b p 997) : Calls Try.prog 13 #[.agg #[.int .i64 a, .int .i64 b], .int .i64 p] w (GivesBB w B true) := by
  have c1 := fun W => mdPrime_all p W true ⟨fun _ => hp, fun _ => rfl⟩
  have c2 := fun W => goodS_any a b p W B hB
  replace c1 := Lib.hid c1
  replace c2 := Lib.hid c2
  clear hp hB
  have h := Below.refl w.heap.size w
  have hA := below_alloc1 w (.cells #[.int .i64 a, .int .i64 b] 26)
  have hx0 := Box.new w 26 #[.int .i64 a, .int .i64 b]
  replace h := Below.step h hA
  clear hA
  obtain ⟨k00, k01⟩ := hx0.two
  have l0 := hx0.lt
  go_enter Try.func13, Try.ntmps13
  go_wp2_with fail
  refine (ecGood_yes a b _ g).mono ?_
  rintro e w1 ⟨rfl, hb⟩
  replace h := Below.step h hb
  replace hx0 := hx0.kept hb
  clear hb k00 k01 l0
  obtain ⟨k00, k01⟩ := hx0.two
  have l0 := hx0.lt
  go_wp2_with fail
  refine (c1.out _).mono ?_
  rintro e w2 ⟨rfl, rfl⟩
  go_wp2_with fail
  refine (c2.out _).mono ?_
  rintro e w3 ⟨rfl, hb⟩
  replace h := Below.step h hb
  replace hx0 := hx0.kept hb
  clear hb k00 k01 l0
  obtain ⟨k00, k01⟩ := hx0.two
  have l0 := hx0.lt
  go_wp2_with fail
  go_ret2
  exact ⟨rfl, h⟩


set_option maxHeartbeats 1000000 in
set_option maxRecDepth 100000 in
theorem isGoodI_c (a b p : Int) (w : World) (g : ¬ EcG a b) : Calls Try.prog 15 #[.agg #[.int .i64 a, .int .i64 b], .int .i64 p] w (GivesBB w false false) := by
  have h := Below.refl w.heap.size w
  have hA := below_alloc1 w (.cells #[.int .i64 a, .int .i64 b] 26)
  have hx0 := Box.new w 26 #[.int .i64 a, .int .i64 b]
  replace h := Below.step h hA
  clear hA
  obtain ⟨k00, k01⟩ := hx0.two
  have l0 := hx0.lt
  go_enter Try.func15, Try.ntmps15
  go_wp2_with fail
  refine (isCurveI_no a b _ g).mono ?_
  rintro e w1 ⟨rfl, hb⟩
  replace h := Below.step h hb
  replace hx0 := hx0.kept hb
  clear hb k00 k01 l0
  obtain ⟨k00, k01⟩ := hx0.two
  have l0 := hx0.lt
  go_wp2_with fail
  go_ret2
  exact ⟨rfl, h⟩


set_option maxHeartbeats 1000000 in
set_option maxRecDepth 100000 in
theorem isGoodI_p (a b p : Int) (w : World) (g : EcG a b) (hp : ¬ IsP p) : Calls Try.prog 15 #[.agg #[.int .i64 a, .int .i64 b], .int .i64 p] w (GivesBB w false false) := by
  have c1 := fun W => isPrime_all p W false ⟨fun e => (by cases e), fun e => absurd e hp⟩
  replace c1 := Lib.hid c1
  clear hp
  have h := Below.refl w.heap.size w
  have hA := below_alloc1 w (.cells #[.int .i64 a, .int .i64 b] 26)
  have hx0 := Box.new w 26 #[.int .i64 a, .int .i64 b]
  replace h := Below.step h hA
  clear hA
  obtain ⟨k00, k01⟩ := hx0.two
  have l0 := hx0.lt
  go_enter Try.func15, Try.ntmps15
  go_wp2_with fail
  refine (isCurveI_yes a b _ g).mono ?_
  rintro e w1 ⟨rfl, hb⟩
  replace h := Below.step h hb
  replace hx0 := hx0.kept hb
  clear hb k00 k01 l0
  obtain ⟨k00, k01⟩ := hx0.two
  have l0 := hx0.lt
  go_wp2_with fail
  refine (c1.out _).mono ?_
  rintro e w2 ⟨rfl, rfl⟩
  go_wp2_with fail
  go_ret2
  exact ⟨rfl, h⟩


set_option maxHeartbeats 1000000 in
set_option maxRecDepth 100000 in
theorem isGoodI_5 (a b : Int) (q : Nat) (w : World) (g : EcG a b) (hp : Pr q) (h9 : q ≤ 997) (h5 : q < 5) : Calls Try.prog 15 #[.agg #[.int .i64 a, .int .i64 b], .int .i64 (q : Int)] w (GivesBB w false true) := by
  have c0 := fun W => isPrime_all (q : Int) W true ⟨fun _ => IsP.nat.2 ⟨hp, h9⟩, fun _ => rfl⟩
  replace c0 := Lib.hid c0
  have d5 : decide ((5 : Int) ≤ q) = false := decide_eq_false (by omega)
  clear hp
  have h := Below.refl w.heap.size w
  have hA := below_alloc1 w (.cells #[.int .i64 a, .int .i64 b] 26)
  have hx0 := Box.new w 26 #[.int .i64 a, .int .i64 b]
  replace h := Below.step h hA
  clear hA
  obtain ⟨k00, k01⟩ := hx0.two
  have l0 := hx0.lt
  go_enter Try.func15, Try.ntmps15
  go_wp2_with fail
  refine (isCurveI_yes a b _ g).mono ?_
  rintro e w1 ⟨rfl, hb⟩
  replace h := Below.step h hb
  replace hx0 := hx0.kept hb
  clear hb k00 k01 l0
  obtain ⟨k00, k01⟩ := hx0.two
  have l0 := hx0.lt
  go_wp2_with fail
  refine (c0.out _).mono ?_
  rintro e w2 ⟨rfl, rfl⟩
  go_wp2_with fail
  go_ret2
  exact ⟨rfl, h⟩


set_option maxHeartbeats 1000000 in
set_option maxRecDepth 100000 in
theorem isGoodI_q (a b : Int) (q : Nat) (w : World) (g : EcG a b) (hp : Pr q) (h9 : q ≤ 997) (h5 : 5 ≤ q) (B : Bool) (hB : B = decide (rs q (ecD a b) ≠ 0)) : Calls Try.prog 15 #[.agg #[.int .i64 a, .int .i64 b], .int .i64 (q : Int)] w (GivesBB w B true) := by
  have c0 := fun W => isPrime_all (q : Int) W true ⟨fun _ => IsP.nat.2 ⟨hp, h9⟩, fun _ => rfl⟩
  replace c0 := Lib.hid c0
  have d5 : decide ((5 : Int) ≤ q) = true := decide_eq_true (by omega)
  have g' := g
  obtain ⟨⟨a1, a2⟩, ⟨b1, b2⟩, -⟩ := g'
  obtain ⟨T, V, fc, fa, hF, hf⟩ := formOf_any a b ⟨a1, a2⟩ ⟨b1, b2⟩
  have n1 := hF.nc
  have m1 := hF.mc
  have e1 := hF.ec
  have c1 := hF.cc
  replace c1 := Lib.hid c1
  replace hf := Lib.hid hf
  have hl := ecD_le g
  clear hF
  obtain ⟨D, hD⟩ : ∃ D, ecD a b = D := ⟨_, rfl⟩
  rw [hD] at hl c1 hB
  have q0 : ((q : Int) == 0) = false := beq_eq_false_iff_ne.2 (by omega)
  have q1 : (q : Int) ≠ 0 := by omega
  have q2 : q ≠ 0 := by omega
  obtain ⟨m1', m2', m3'⟩ := mod_facts D q (by omega)
  have eB : (D.tmod q != 0) = B := by
    rw [hB]
    have hc := rs_cast (show 0 < q by omega) D
    have h1 : D.tmod q = 0 ↔ D % (q : Int) = 0 := ⟨fun e => Int.emod_eq_zero_of_dvd (Int.dvd_of_tmod_eq_zero e), fun e => Int.tmod_eq_zero_of_dvd (Int.dvd_of_emod_eq_zero e)⟩
    by_cases e : D.tmod q = 0
    · have : rs q D = 0 := by have := h1.1 e; omega
      simp [e, this]
    · have : rs q D ≠ 0 := fun k => e (h1.2 (by omega))
      simp [e, this]
  clear hp hD hB m3'
  have h := Below.refl w.heap.size w
  have hA := below_alloc1 w (.cells #[.int .i64 a, .int .i64 b] 26)
  have hx0 := Box.new w 26 #[.int .i64 a, .int .i64 b]
  replace h := Below.step h hA
  clear hA
  obtain ⟨k00, k01⟩ := hx0.two
  have l0 := hx0.lt
  go_enter Try.func15, Try.ntmps15
  go_wp2_with fail
  refine (isCurveI_yes a b _ g).mono ?_
  rintro e w1 ⟨rfl, hb⟩
  replace h := Below.step h hb
  replace hx0 := hx0.kept hb
  clear hb k00 k01 l0
  obtain ⟨k00, k01⟩ := hx0.two
  have l0 := hx0.lt
  go_wp2_with fail
  refine (c0.out _).mono ?_
  rintro e w2 ⟨rfl, rfl⟩
  go_wp2_with fail
  refine (hf.out _).mono ?_
  rintro e w3 ⟨rfl, hb⟩
  replace h := Below.step h hb
  replace hx0 := hx0.kept hb
  clear hb k00 k01 l0
  obtain ⟨k00, k01⟩ := hx0.two
  have l0 := hx0.lt
  go_wp2_with fail
  refine (c1.out _).mono ?_
  rintro e w4 ⟨rfl, hb⟩
  replace h := Below.step h hb
  replace hx0 := hx0.kept hb
  clear hb k00 k01 l0
  obtain ⟨k00, k01⟩ := hx0.two
  have l0 := hx0.lt
  go_wp2_with fail
  go_ret2
  exact ⟨rfl, h⟩


/-- What IsGoodPrime answers. -/
theorem isGood_all (a b p : Int) : ∃ B ok : Bool, (∀ w : World, Calls Try.prog 13 #[.agg #[.int .i64 a, .int .i64 b], .int .i64 p] w (GivesBB w B ok)) ∧ (∀ w : World, Calls Try.prog 15 #[.agg #[.int .i64 a, .int .i64 b], .int .i64 p] w (GivesBB w B ok)) ∧ (Gd a b p 997 → B = true ∧ ok = true) ∧ (¬ Gd a b p 997 → B = false ∨ ok = false) := by
  by_cases g : EcG a b
  · by_cases hp : IsP p
    · obtain ⟨q, rfl, hp, h9⟩ := hp
      by_cases hgd : Gd a b q 997
      · refine ⟨true, true, fun w => isGoodS_q a b q w g (IsP.nat.2 ⟨hp, h9⟩) true ⟨fun _ => hgd, fun _ => rfl⟩, fun w => ?_, fun _ => ⟨rfl, rfl⟩, fun h => absurd hgd h⟩
        exact isGoodI_q a b q w g hp h9 hgd.nat.1.five true (decide_eq_true ((rs_ne (by have := hp.1; omega) _).2 hgd.nat.1.d)).symm
      · refine ⟨false, true, fun w => isGoodS_q a b q w g (IsP.nat.2 ⟨hp, h9⟩) false ⟨fun e => (by cases e), fun e => absurd e hgd⟩, fun w => ?_, fun h => absurd h hgd, fun _ => .inl rfl⟩
        by_cases h5 : 5 ≤ q
        · exact isGoodI_q a b q w g hp h9 h5 false (decide_eq_false (fun h => hgd ⟨q, rfl, ⟨hp, h5, h9, g, (rs_ne (by omega) _).1 h⟩, h9⟩)).symm
        · exact isGoodI_5 a b q w g hp h9 (by omega)
    · exact ⟨false, false, fun w => isGoodS_p a b p w g hp, fun w => isGoodI_p a b p w g hp, fun ⟨q, h1, h2, h3⟩ => absurd (h1 ▸ IsP.nat.2 ⟨h2.pr, h3⟩) hp, fun _ => .inl rfl⟩
  · exact ⟨false, false, fun w => isGoodS_c a b p w g, fun w => isGoodI_c a b p w g, fun ⟨q, h1, h2, h3⟩ => absurd h2.g g, fun _ => .inl rfl⟩

set_option maxHeartbeats 1000000 in
set_option maxRecDepth 100000 in
theorem cmod_ok (a b p m : Int) (B : Bool) (w : World) (key : ∀ W : World, Calls Try.prog 15 #[.agg #[.int .i64 a, .int .i64 b], .int .i64 p] W (GivesBB W B false)) : Calls Try.prog 48 #[.agg #[.int .i64 a, .int .i64 b], .int .i64 p, .int .i64 m] w (GivesPB w 0 0 0 false) := by
  replace key := Lib.hid key
  have h := Below.refl w.heap.size w
  have hA := below_alloc1 w (.cells #[.int .i64 a, .int .i64 b] 26)
  have hx0 := Box.new w 26 #[.int .i64 a, .int .i64 b]
  replace h := Below.step h hA
  clear hA
  have hA := below_alloc1 (w.alloc (.cells #[.int .i64 a, .int .i64 b] 26)) (.cells #[.int .i64 0, .int .i64 0, .int .i64 0] 62)
  have hxr := Box.new (w.alloc (.cells #[.int .i64 a, .int .i64 b] 26)) 62 #[.int .i64 0, .int .i64 0, .int .i64 0]
  rw [show (w.alloc (.cells #[.int .i64 a, .int .i64 b] 26)).heap.size = w.heap.size + 1 from by simp] at hxr
  replace h := Below.step h hA
  replace hx0 := hx0.kept hA
  clear hA
  obtain ⟨k00, k01⟩ := hx0.two
  have l0 := hx0.lt
  obtain ⟨kr0, kr1, kr2⟩ := hxr.three
  have lr := hxr.lt
  go_enter Try.func48, Try.ntmps48
  go_wp2_with fail
  refine (key.out _).mono ?_
  rintro e w1 ⟨rfl, hb⟩
  replace h := Below.step h hb
  replace hx0 := hx0.kept hb
  replace hxr := hxr.kept hb
  clear hb k00 k01 l0 kr0 kr1 kr2 lr
  obtain ⟨k00, k01⟩ := hx0.two
  have l0 := hx0.lt
  obtain ⟨kr0, kr1, kr2⟩ := hxr.three
  have lr := hxr.lt
  have fr0 := hxr.free 0
  have fr1 := hxr.free 1
  have fr2 := hxr.free 2
  obtain ⟨sr0, sr1, sr2⟩ := (((hxr.set 0 (.int .i64 0)).set 1 (.int .i64 0)).set 2 (.int .i64 0)).three
  go_wp2_with fail
  refine bodyPost_ret (v := .tuple #[.agg #[.int .i64 0, .int .i64 0, .int .i64 0], .bool false]) (by simp [results, Try.results48, go_sem, sr0, sr1, sr2]) (by rfl) ⟨by rfl, ?_⟩
  exact below_sets3 h (by omega) _ _ _


set_option maxHeartbeats 1000000 in
set_option maxRecDepth 100000 in
theorem cmod_b (a b p m : Int) (w : World) (key : ∀ W : World, Calls Try.prog 15 #[.agg #[.int .i64 a, .int .i64 b], .int .i64 p] W (GivesBB W false true)) : Calls Try.prog 48 #[.agg #[.int .i64 a, .int .i64 b], .int .i64 p, .int .i64 m] w (GivesPB w 0 0 0 false) := by
  replace key := Lib.hid key
  have h := Below.refl w.heap.size w
  have hA := below_alloc1 w (.cells #[.int .i64 a, .int .i64 b] 26)
  have hx0 := Box.new w 26 #[.int .i64 a, .int .i64 b]
  replace h := Below.step h hA
  clear hA
  have hA := below_alloc1 (w.alloc (.cells #[.int .i64 a, .int .i64 b] 26)) (.cells #[.int .i64 0, .int .i64 0, .int .i64 0] 62)
  have hxr := Box.new (w.alloc (.cells #[.int .i64 a, .int .i64 b] 26)) 62 #[.int .i64 0, .int .i64 0, .int .i64 0]
  rw [show (w.alloc (.cells #[.int .i64 a, .int .i64 b] 26)).heap.size = w.heap.size + 1 from by simp] at hxr
  replace h := Below.step h hA
  replace hx0 := hx0.kept hA
  clear hA
  obtain ⟨k00, k01⟩ := hx0.two
  have l0 := hx0.lt
  obtain ⟨kr0, kr1, kr2⟩ := hxr.three
  have lr := hxr.lt
  go_enter Try.func48, Try.ntmps48
  go_wp2_with fail
  refine (key.out _).mono ?_
  rintro e w1 ⟨rfl, hb⟩
  replace h := Below.step h hb
  replace hx0 := hx0.kept hb
  replace hxr := hxr.kept hb
  clear hb k00 k01 l0 kr0 kr1 kr2 lr
  obtain ⟨k00, k01⟩ := hx0.two
  have l0 := hx0.lt
  obtain ⟨kr0, kr1, kr2⟩ := hxr.three
  have lr := hxr.lt
  have fr0 := hxr.free 0
  have fr1 := hxr.free 1
  have fr2 := hxr.free 2
  obtain ⟨sr0, sr1, sr2⟩ := (((hxr.set 0 (.int .i64 0)).set 1 (.int .i64 0)).set 2 (.int .i64 0)).three
  go_wp2_with fail
  refine bodyPost_ret (v := .tuple #[.agg #[.int .i64 0, .int .i64 0, .int .i64 0], .bool false]) (by simp [results, Try.results48, go_sem, sr0, sr1, sr2]) (by rfl) ⟨by rfl, ?_⟩
  exact below_sets3 h (by omega) _ _ _


set_option maxHeartbeats 1000000 in
set_option maxRecDepth 100000 in
theorem cmod_far (a b p m : Int) (w : World) (hm : m < p) (key : ∀ W : World, Calls Try.prog 15 #[.agg #[.int .i64 a, .int .i64 b], .int .i64 p] W (GivesBB W true true)) : Calls Try.prog 48 #[.agg #[.int .i64 a, .int .i64 b], .int .i64 p, .int .i64 m] w (GivesPB w 0 0 0 false) := by
  replace key := Lib.hid key
  have h := Below.refl w.heap.size w
  have hA := below_alloc1 w (.cells #[.int .i64 a, .int .i64 b] 26)
  have hx0 := Box.new w 26 #[.int .i64 a, .int .i64 b]
  replace h := Below.step h hA
  clear hA
  have hA := below_alloc1 (w.alloc (.cells #[.int .i64 a, .int .i64 b] 26)) (.cells #[.int .i64 0, .int .i64 0, .int .i64 0] 62)
  have hxr := Box.new (w.alloc (.cells #[.int .i64 a, .int .i64 b] 26)) 62 #[.int .i64 0, .int .i64 0, .int .i64 0]
  rw [show (w.alloc (.cells #[.int .i64 a, .int .i64 b] 26)).heap.size = w.heap.size + 1 from by simp] at hxr
  replace h := Below.step h hA
  replace hx0 := hx0.kept hA
  clear hA
  obtain ⟨k00, k01⟩ := hx0.two
  have l0 := hx0.lt
  obtain ⟨kr0, kr1, kr2⟩ := hxr.three
  have lr := hxr.lt
  go_enter Try.func48, Try.ntmps48
  go_wp2_with fail
  refine (key.out _).mono ?_
  rintro e w1 ⟨rfl, hb⟩
  replace h := Below.step h hb
  replace hx0 := hx0.kept hb
  replace hxr := hxr.kept hb
  clear hb k00 k01 l0 kr0 kr1 kr2 lr
  obtain ⟨k00, k01⟩ := hx0.two
  have l0 := hx0.lt
  obtain ⟨kr0, kr1, kr2⟩ := hxr.three
  have lr := hxr.lt
  have fr0 := hxr.free 0
  have fr1 := hxr.free 1
  have fr2 := hxr.free 2
  obtain ⟨sr0, sr1, sr2⟩ := (((hxr.set 0 (.int .i64 0)).set 1 (.int .i64 0)).set 2 (.int .i64 0)).three
  go_wp2_with fail
  refine bodyPost_ret (v := .tuple #[.agg #[.int .i64 0, .int .i64 0, .int .i64 0], .bool false]) (by simp [results, Try.results48, go_sem, sr0, sr1, sr2]) (by rfl) ⟨by rfl, ?_⟩
  exact below_sets3 h (by omega) _ _ _


set_option maxHeartbeats 1000000 in
set_option maxRecDepth 100000 in
theorem cmod_yes (a b m : Int) (q : Nat) (w : World) (g : FG a b q) (hm : (q : Int) ≤ m) (key : ∀ W : World, Calls Try.prog 15 #[.agg #[.int .i64 a, .int .i64 b], .int .i64 (q : Int)] W (GivesBB W true true)) : Calls Try.prog 48 #[.agg #[.int .i64 a, .int .i64 b], .int .i64 (q : Int), .int .i64 m] w (GivesPB w (rs q a) (rs q b) q true) := by
  have c1 := fun W => rmod_any a q W ⟨by have := g.g.1; omega, by have := g.g.1; omega⟩ (by have := g.five; omega) g.le
  have c2 := fun W => rmod_any b q W ⟨by have := g.g.2.1; omega, by have := g.g.2.1; omega⟩ (by have := g.five; omega) g.le
  replace key := Lib.hid key
  replace c1 := Lib.hid c1
  replace c2 := Lib.hid c2
  clear g
  have h := Below.refl w.heap.size w
  have hA := below_alloc1 w (.cells #[.int .i64 a, .int .i64 b] 26)
  have hx0 := Box.new w 26 #[.int .i64 a, .int .i64 b]
  replace h := Below.step h hA
  clear hA
  have hA := below_alloc1 (w.alloc (.cells #[.int .i64 a, .int .i64 b] 26)) (.cells #[.int .i64 0, .int .i64 0, .int .i64 0] 62)
  have hxr := Box.new (w.alloc (.cells #[.int .i64 a, .int .i64 b] 26)) 62 #[.int .i64 0, .int .i64 0, .int .i64 0]
  rw [show (w.alloc (.cells #[.int .i64 a, .int .i64 b] 26)).heap.size = w.heap.size + 1 from by simp] at hxr
  replace h := Below.step h hA
  replace hx0 := hx0.kept hA
  clear hA
  obtain ⟨k00, k01⟩ := hx0.two
  have l0 := hx0.lt
  obtain ⟨kr0, kr1, kr2⟩ := hxr.three
  have lr := hxr.lt
  go_enter Try.func48, Try.ntmps48
  go_wp2_with fail
  refine (key.out _).mono ?_
  rintro e w1 ⟨rfl, hb⟩
  replace h := Below.step h hb
  replace hx0 := hx0.kept hb
  replace hxr := hxr.kept hb
  clear hb k00 k01 l0 kr0 kr1 kr2 lr
  obtain ⟨k00, k01⟩ := hx0.two
  have l0 := hx0.lt
  obtain ⟨kr0, kr1, kr2⟩ := hxr.three
  have lr := hxr.lt
  go_wp2_with fail
  go_still_tail 10, (by kernel_rfl)
  still_call (sleft (c1.out _))
  repeat still_step
  still_call (sleft (c2.out _))
  repeat still_step
  refine wpStill_nil ?_
  clear k00 k01 l0 kr0 kr1 kr2 lr
  have hb : Below w1.heap.size w1 w1.drew := ⟨rfl, rfl, rfl, Nat.le_refl _, fun _ _ => rfl⟩
  change wpList _ _ _ _ _ w1.drew
  generalize w1.drew = w2 at *
  replace h := Below.step h hb
  replace hx0 := hx0.kept hb
  replace hxr := hxr.kept hb
  clear hb
  obtain ⟨k00, k01⟩ := hx0.two
  have l0 := hx0.lt
  obtain ⟨kr0, kr1, kr2⟩ := hxr.three
  have lr := hxr.lt
  have fr0 := hxr.free 0
  have fr1 := hxr.free 1
  have fr2 := hxr.free 2
  obtain ⟨sr0, sr1, sr2⟩ := (((hxr.set 0 (.int .i64 (rs q a : Int))).set 1 (.int .i64 (rs q b : Int))).set 2 (.int .i64 (q : Int))).three
  go_wp2_with fail
  refine bodyPost_ret (v := .tuple #[.agg #[.int .i64 (rs q a : Int), .int .i64 (rs q b : Int), .int .i64 (q : Int)], .bool true]) (by simp [results, Try.results48, go_sem, sr0, sr1, sr2]) (by rfl) ⟨by rfl, ?_⟩
  exact below_sets3 h (by omega) _ _ _


theorem curveMod_yes (a b : Int) (q M : Nat) (w : World) (g : FG a b q) (hm : q ≤ M) : Calls Try.prog 48 #[.agg #[.int .i64 a, .int .i64 b], .int .i64 (q : Int), .int .i64 (M : Int)] w (GivesPB w (rs q a) (rs q b) q true) := by
  obtain ⟨B, ok, _, h2, h3, _⟩ := isGood_all a b q
  obtain ⟨rfl, rfl⟩ := h3 ⟨q, rfl, g, g.le⟩
  exact cmod_yes a b M q w g (by omega) h2
theorem curveMod_no (a b p : Int) (M : Nat) (w : World) (g : ¬ Gd a b p M) : Calls Try.prog 48 #[.agg #[.int .i64 a, .int .i64 b], .int .i64 p, .int .i64 (M : Int)] w (GivesPB w 0 0 0 false) := by
  obtain ⟨B, ok, _, h2, h3, h4⟩ := isGood_all a b p
  by_cases h : Gd a b p 997
  · obtain ⟨rfl, rfl⟩ := h3 h
    obtain ⟨q, rfl, hq, h9⟩ := h
    exact cmod_far a b q M w (by apply Int.not_le.1; intro hle; exact g ⟨q, rfl, hq, by omega⟩) h2
  · rcases h4 h with rfl | rfl
    · cases ok
      · exact cmod_ok a b p M false w h2
      · exact cmod_b a b p M w h2
    · exact cmod_ok a b p M B w h2
end Go.Proofs.Ytbgoiflkpefckaa
