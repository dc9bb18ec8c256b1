/- DivisorWith and DivideWhole: the model's and the program's. -/
import Derived.Test.YtlkdelhmjjnnnaaOver
import Derived.Test.YtlkdelhmjjnnnaaAddSub
import Derived.Test.YtlkdelhmjjnnnaaLawDivisorWith
import Derived.Test.YtlkdelhmjjnnnaaLawDivideWhole
namespace Go.Proofs.Ytlkdelhmjjnnnaa
open Go.RowKit Go.Joins

theorem bgSmall_yes (z : Int) (w : World) (h0 : 0 < z) (h1 : z ≤ 1000000000000) : Calls Try.prog 56 #[.int .i64 z] w fun e w' => e = .returned (.bool true) ∧ Below w.heap.size w w' := by
  go_enter Try.func56, Try.ntmps56
  go_wp2_with fail
  refine (l1In_yes z _ _ _ (by omega) h1).mono ?_
  rintro e w' ⟨rfl, rfl⟩
  go_wp2_with fail
  go_ret
  exact ⟨rfl, Below.refl _ _⟩
theorem bgSmall_no (z : Int) (w : World) (h : z < 1 ∨ 1000000000000 < z) : Calls Try.prog 56 #[.int .i64 z] w fun e w' => e = .returned (.bool false) ∧ Below w.heap.size w w' := by
  go_enter Try.func56, Try.ntmps56
  go_wp2_with fail
  refine (l1In_no z _ _ _ h).mono ?_
  rintro e w' ⟨rfl, rfl⟩
  go_wp2_with fail
  go_ret
  exact ⟨rfl, Below.refl _ _⟩

theorem gcd_mod_nat (x n : Nat) : Nat.gcd x (n % x) = Nat.gcd x n := by rw [gcd_turn, Nat.gcd_comm]
theorem gcd_mod_int (x : Nat) (hx : 0 < x) (V : Int) : Nat.gcd x (V % (x : Int)).toNat = Nat.gcd x V.natAbs := by
  have h : ((V % (x : Int)).toNat : Int) = V % (x : Int) := Int.toNat_of_nonneg (Int.emod_nonneg _ (by omega))
  apply Nat.dvd_antisymm
  · refine Nat.dvd_gcd (Nat.gcd_dvd_left _ _) ?_
    rw [← Int.ofNat_dvd_left]
    have a : ((Nat.gcd x (V % (x : Int)).toNat : Nat) : Int) ∣ (x : Int) := Int.natCast_dvd_natCast.2 (Nat.gcd_dvd_left _ _)
    have b : ((Nat.gcd x (V % (x : Int)).toNat : Nat) : Int) ∣ V % (x : Int) := by
      rw [← h, Int.toNat_natCast]; exact Int.natCast_dvd_natCast.2 (Nat.gcd_dvd_right _ _)
    have c := Int.dvd_add b (Int.dvd_mul_of_dvd_left (c := V / (x : Int)) a)
    rwa [Int.emod_add_mul_ediv] at c
  · refine Nat.dvd_gcd (Nat.gcd_dvd_left _ _) ?_
    rw [← Int.natCast_dvd_natCast, h, Int.emod_def]
    have a : ((Nat.gcd x V.natAbs : Nat) : Int) ∣ (x : Int) := Int.natCast_dvd_natCast.2 (Nat.gcd_dvd_left _ _)
    have b : ((Nat.gcd x V.natAbs : Nat) : Int) ∣ V := Int.ofNat_dvd_left.2 (Nat.gcd_dvd_right _ _)
    exact Int.dvd_sub b (Int.dvd_mul_of_dvd_left a)
theorem num_natAbs {neg : Bool} {xs : List Int} : (num neg xs).natAbs = (val xs).natAbs := by unfold num; cases neg <;> simp

theorem rd_one (w : World) (B : Nat) (x : Int) (hB : w.heap.size < B) : Rd (w.alloc (.cells #[.int .i64 x] 3)) B (some ⟨w.heap.size, 0, none⟩) 1 [x] := by
  refine ⟨rfl, fun _ => ⟨w.heap.size, 0, rfl, hB, fun k hk => ?_⟩⟩
  obtain rfl : k = 0 := by omega
  exact (Box.new w 3 #[.int .i64 x]).cell 0

theorem GivesRes.good {w : World} {base : Nat} {z : Int} {e : Ending} {w' : World} (hl : (digs z.natAbs).length ≤ 400) (h : GivesRes w base z e w') : GivesOkAt w base (decide (z < 0)) (digs z.natAbs) true e w' := by
  have h2 : GivesOkAt w base (resNeg z) (resDigs z) (resOk z) e w' := h
  unfold resNeg resDigs resOk at h2
  rw [if_pos hl, if_pos hl, decide_eq_true hl] at h2
  exact h2
theorem quo_len {neg : Bool} {xs : List Int} {z : Int} (hg : Good neg xs) : (digs (num neg xs / z).natAbs).length ≤ 400 := by
  have h1 := val_lt hg.rng
  have h2 := val_nonneg hg.rng
  have h3 := Int.natAbs_ediv_le_natAbs (num neg xs) z
  rw [num_natAbs] at h3
  have h4 := digs_len_all (k := xs.length) (n := (num neg xs / z).natAbs) (by omega)
  have := hg.len
  omega

set_option maxHeartbeats 1000000 in
theorem dwS_no (neg0 : Bool) (A0 : Option Addr) (c0 : Nat) (xs0 : List Int) (z1 : Int) (w : World) (_hl0 : xs0.length ≤ 1048576) (_hr0 : Rd w w.heap.size A0 xs0.length xs0)  (hg : ¬ Good neg0 xs0)  :
    Calls Try.prog 35 #[.agg #[.bool neg0, .slice A0 xs0.length c0], .int .i64 z1] w (GivesIntOk w 0 false) := by
  have h := Below.refl w.heap.size w
  have hA := below_alloc1 w (.cells #[.bool neg0, .slice A0 xs0.length c0] 27)
  replace h := Below.step h hA
  have hx0 := Box.new w 27 #[.bool neg0, .slice A0 xs0.length c0]
  clear hA
  go_enter Try.func35, Try.ntmps35
  go_wp2_with fail
  refine (bgGood_no neg0 A0 _ c0 xs0 _ (by omega) (_hr0.kept h) hg).mono ?_
  rintro e w1 ⟨rfl, hb⟩
  replace h := Below.step h hb
  replace hx0 := hx0.kept hb
  clear hb
  obtain ⟨ahx0, bhx0⟩ := hx0.two
  have lhx0 := hx0.lt
  go_wp2_with fail
  go_ret2
  exact ⟨rfl, h⟩

set_option maxHeartbeats 1000000 in
theorem dwS_lo (neg0 : Bool) (A0 : Option Addr) (c0 : Nat) (xs0 : List Int) (z1 : Int) (w : World) (_hl0 : xs0.length ≤ 1048576) (_hr0 : Rd w w.heap.size A0 xs0.length xs0) (hg0 : Good neg0 xs0) (hz : z1 < 1) :
    Calls Try.prog 35 #[.agg #[.bool neg0, .slice A0 xs0.length c0], .int .i64 z1] w (GivesIntOk w 0 false) := by
  have h := Below.refl w.heap.size w
  have hA := below_alloc1 w (.cells #[.bool neg0, .slice A0 xs0.length c0] 27)
  replace h := Below.step h hA
  have hx0 := Box.new w 27 #[.bool neg0, .slice A0 xs0.length c0]
  clear hA
  go_enter Try.func35, Try.ntmps35
  go_wp2_with fail
  refine (bgGood_yes neg0 A0 _ c0 xs0 _ (_hr0.kept h) hg0).mono ?_
  rintro e w1 ⟨rfl, hb⟩
  replace h := Below.step h hb
  replace hx0 := hx0.kept hb
  clear hb
  obtain ⟨ahx0, bhx0⟩ := hx0.two
  have lhx0 := hx0.lt
  go_wp2_with fail
  refine (bgSmall_no z1 _ (by omega)).mono ?_
  rintro e w2 ⟨rfl, hb⟩
  replace h := Below.step h hb
  replace hx0 := hx0.kept hb
  clear hb ahx0 bhx0 lhx0
  obtain ⟨ahx0, bhx0⟩ := hx0.two
  have lhx0 := hx0.lt
  go_wp2_with fail
  go_ret2
  exact ⟨rfl, h⟩

set_option maxHeartbeats 1000000 in
theorem dwS_hi (neg0 : Bool) (A0 : Option Addr) (c0 : Nat) (xs0 : List Int) (z1 : Int) (w : World) (_hl0 : xs0.length ≤ 1048576) (_hr0 : Rd w w.heap.size A0 xs0.length xs0) (hg0 : Good neg0 xs0) (hz : 1000000000000 < z1) :
    Calls Try.prog 35 #[.agg #[.bool neg0, .slice A0 xs0.length c0], .int .i64 z1] w (GivesIntOk w 0 false) := by
  have h := Below.refl w.heap.size w
  have hA := below_alloc1 w (.cells #[.bool neg0, .slice A0 xs0.length c0] 27)
  replace h := Below.step h hA
  have hx0 := Box.new w 27 #[.bool neg0, .slice A0 xs0.length c0]
  clear hA
  go_enter Try.func35, Try.ntmps35
  go_wp2_with fail
  refine (bgGood_yes neg0 A0 _ c0 xs0 _ (_hr0.kept h) hg0).mono ?_
  rintro e w1 ⟨rfl, hb⟩
  replace h := Below.step h hb
  replace hx0 := hx0.kept hb
  clear hb
  obtain ⟨ahx0, bhx0⟩ := hx0.two
  have lhx0 := hx0.lt
  go_wp2_with fail
  refine (bgSmall_no z1 _ (by omega)).mono ?_
  rintro e w2 ⟨rfl, hb⟩
  replace h := Below.step h hb
  replace hx0 := hx0.kept hb
  clear hb ahx0 bhx0 lhx0
  obtain ⟨ahx0, bhx0⟩ := hx0.two
  have lhx0 := hx0.lt
  go_wp2_with fail
  go_ret2
  exact ⟨rfl, h⟩

set_option maxHeartbeats 1000000 in
theorem dwS_yes (neg0 : Bool) (A0 : Option Addr) (c0 : Nat) (xs0 : List Int) (x : Nat) (w : World) (_hl0 : xs0.length ≤ 1048576) (_hr0 : Rd w w.heap.size A0 xs0.length xs0) (hg0 : Good neg0 xs0) (hx0' : 0 < x) (hx1 : x ≤ 1000000000000) :
    ∀ (G : Nat), G = Nat.gcd x (val xs0).natAbs → Calls Try.prog 35 #[.agg #[.bool neg0, .slice A0 xs0.length c0], .int .i64 (x : Int)] w (GivesIntOk w (G : Int) true) := by
  intro G hG
  replace hG := Lib.hid hG
  obtain ⟨y, hy⟩ : ∃ y : Nat, (y : Int) = num neg0 xs0 % (x : Int) := ⟨(num neg0 xs0 % (x : Int)).toNat, Int.toNat_of_nonneg (Int.emod_nonneg _ (by omega))⟩
  have hyx : y < x := by have := Int.emod_lt_of_pos (num neg0 xs0) (by omega : (0 : Int) < x); omega
  have hGy : Nat.gcd x y = G := by
    have h1 := gcd_mod_int x hx0' (num neg0 xs0)
    rw [← hy, Int.toNat_natCast] at h1
    rw [h1, hG.out, num_natAbs]
  replace hy := Lib.hid hy
  replace hGy := Lib.hid hGy
  have l0 := hg0.len
  have h := Below.refl w.heap.size w
  have hA := below_alloc1 w (.cells #[.bool neg0, .slice A0 xs0.length c0] 27)
  replace h := Below.step h hA
  have hx0 := Box.new w 27 #[.bool neg0, .slice A0 xs0.length c0]
  clear hA
  go_enter Try.func35, Try.ntmps35
  go_wp2_with fail
  refine (bgGood_yes neg0 A0 _ c0 xs0 _ (_hr0.kept h) hg0).mono ?_
  rintro e w1 ⟨rfl, hb⟩
  replace h := Below.step h hb
  replace hx0 := hx0.kept hb
  clear hb
  obtain ⟨ahx0, bhx0⟩ := hx0.two
  have lhx0 := hx0.lt
  go_wp2_with fail
  refine (bgSmall_yes (x : Int) _ (by omega) (by omega)).mono ?_
  rintro e w2 ⟨rfl, hb⟩
  replace h := Below.step h hb
  replace hx0 := hx0.kept hb
  clear hb ahx0 bhx0 lhx0
  obtain ⟨ahx0, bhx0⟩ := hx0.two
  have lhx0 := hx0.lt
  go_wp2_with fail
  refine (bgOver_any neg0 A0 c0 xs0 (x : Int) _ (by omega) (_hr0.kept h) hg0.rng (by omega) (by omega) _ y rfl hy.out).mono ?_
  rintro e w3 ⟨Aq, cq, rfl, hoq, hb⟩
  replace h := Below.step h hb
  replace hx0 := hx0.kept hb
  clear hb ahx0 bhx0 lhx0
  obtain ⟨ahx0, bhx0⟩ := hx0.two
  have lhx0 := hx0.lt
  go_wp2_with fail
  refine (bgCommon_any x y _ (by omega) (by omega)).mono ?_
  rintro e w9 ⟨rfl, rfl⟩
  rw [hGy.out]
  go_wp2_with fail
  go_ret2
  exact ⟨rfl, Below.step h (below_alloc1 _ _)⟩

set_option maxHeartbeats 1000000 in
theorem dwI_no (neg0 : Bool) (A0 : Option Addr) (c0 : Nat) (xs0 : List Int) (z1 : Int) (w : World) (_hl0 : xs0.length ≤ 1048576) (_hr0 : Rd w w.heap.size A0 xs0.length xs0)  (hg : ¬ Good neg0 xs0)  :
    Calls Try.prog 36 #[.agg #[.bool neg0, .slice A0 xs0.length c0], .int .i64 z1] w (GivesIntOk w 0 false) := by
  have h := Below.refl w.heap.size w
  have hA := below_alloc1 w (.cells #[.bool neg0, .slice A0 xs0.length c0] 27)
  replace h := Below.step h hA
  have hx0 := Box.new w 27 #[.bool neg0, .slice A0 xs0.length c0]
  clear hA
  go_enter Try.func36, Try.ntmps36
  go_wp2_with fail
  refine (isWholeI_no neg0 A0 _ c0 xs0 _ (by omega) (_hr0.kept h) hg).mono ?_
  rintro e w1 ⟨rfl, hb⟩
  replace h := Below.step h hb
  replace hx0 := hx0.kept hb
  clear hb
  obtain ⟨ahx0, bhx0⟩ := hx0.two
  have lhx0 := hx0.lt
  go_wp2_with fail
  go_ret2
  exact ⟨rfl, h⟩

set_option maxHeartbeats 1000000 in
theorem dwI_lo (neg0 : Bool) (A0 : Option Addr) (c0 : Nat) (xs0 : List Int) (z1 : Int) (w : World) (_hl0 : xs0.length ≤ 1048576) (_hr0 : Rd w w.heap.size A0 xs0.length xs0) (hg0 : Good neg0 xs0) (hz : z1 < 1) :
    Calls Try.prog 36 #[.agg #[.bool neg0, .slice A0 xs0.length c0], .int .i64 z1] w (GivesIntOk w 0 false) := by
  have h := Below.refl w.heap.size w
  have hA := below_alloc1 w (.cells #[.bool neg0, .slice A0 xs0.length c0] 27)
  replace h := Below.step h hA
  have hx0 := Box.new w 27 #[.bool neg0, .slice A0 xs0.length c0]
  clear hA
  go_enter Try.func36, Try.ntmps36
  go_wp2_with fail
  refine (isWholeI_yes neg0 A0 _ c0 xs0 _ (_hr0.kept h) hg0).mono ?_
  rintro e w1 ⟨rfl, hb⟩
  replace h := Below.step h hb
  replace hx0 := hx0.kept hb
  clear hb
  obtain ⟨ahx0, bhx0⟩ := hx0.two
  have lhx0 := hx0.lt
  go_wp2_with fail
  go_ret2
  exact ⟨rfl, h⟩

set_option maxHeartbeats 1000000 in
theorem dwI_hi (neg0 : Bool) (A0 : Option Addr) (c0 : Nat) (xs0 : List Int) (z1 : Int) (w : World) (_hl0 : xs0.length ≤ 1048576) (_hr0 : Rd w w.heap.size A0 xs0.length xs0) (hg0 : Good neg0 xs0) (hz : 1000000000000 < z1) :
    Calls Try.prog 36 #[.agg #[.bool neg0, .slice A0 xs0.length c0], .int .i64 z1] w (GivesIntOk w 0 false) := by
  have h := Below.refl w.heap.size w
  have hA := below_alloc1 w (.cells #[.bool neg0, .slice A0 xs0.length c0] 27)
  replace h := Below.step h hA
  have hx0 := Box.new w 27 #[.bool neg0, .slice A0 xs0.length c0]
  clear hA
  have hz2 : ¬ z1 < 1 := by omega
  go_enter Try.func36, Try.ntmps36
  go_wp2_with fail
  refine (isWholeI_yes neg0 A0 _ c0 xs0 _ (_hr0.kept h) hg0).mono ?_
  rintro e w1 ⟨rfl, hb⟩
  replace h := Below.step h hb
  replace hx0 := hx0.kept hb
  clear hb
  obtain ⟨ahx0, bhx0⟩ := hx0.two
  have lhx0 := hx0.lt
  go_wp2_with fail
  go_ret2
  exact ⟨rfl, h⟩

set_option maxHeartbeats 1000000 in
theorem dwI_yes (neg0 : Bool) (A0 : Option Addr) (c0 : Nat) (xs0 : List Int) (x : Nat) (w : World) (_hl0 : xs0.length ≤ 1048576) (_hr0 : Rd w w.heap.size A0 xs0.length xs0) (hg0 : Good neg0 xs0) (hx0' : 0 < x) (hx1 : x ≤ 1000000000000) :
    ∀ (G : Nat), G = Nat.gcd x (val xs0).natAbs → Calls Try.prog 36 #[.agg #[.bool neg0, .slice A0 xs0.length c0], .int .i64 (x : Int)] w (GivesIntOk w (G : Int) true) := by
  intro G hG
  replace hG := Lib.hid hG
  obtain ⟨y, hy⟩ : ∃ y : Nat, (y : Int) = val xs0 % (x : Int) := ⟨(val xs0 % (x : Int)).toNat, Int.toNat_of_nonneg (Int.emod_nonneg _ (by omega))⟩
  have hyx : y < x := by have := Int.emod_lt_of_pos (val xs0) (by omega : (0 : Int) < x); omega
  have hGy : Nat.gcd x y = G := by
    have h1 := gcd_mod_int x hx0' (val xs0)
    rw [← hy, Int.toNat_natCast] at h1
    rw [h1, hG.out]
  replace hy := Lib.hid hy
  replace hGy := Lib.hid hGy
  have l0 := hg0.len
  have h := Below.refl w.heap.size w
  have hA := below_alloc1 w (.cells #[.bool neg0, .slice A0 xs0.length c0] 27)
  replace h := Below.step h hA
  have hx0 := Box.new w 27 #[.bool neg0, .slice A0 xs0.length c0]
  clear hA
  go_enter Try.func36, Try.ntmps36
  go_wp2_with fail
  refine (isWholeI_yes neg0 A0 _ c0 xs0 _ (_hr0.kept h) hg0).mono ?_
  rintro e w1 ⟨rfl, hb⟩
  replace h := Below.step h hb
  replace hx0 := hx0.kept hb
  clear hb
  obtain ⟨ahx0, bhx0⟩ := hx0.two
  have lhx0 := hx0.lt
  go_wp2_with fail
  have c := divideLimbs_any A0 xs0.length c0 xs0 (x : Int) w1 (by omega) (_hr0.kept h) hg0.rng (by omega) (by omega)
  rw [← hy.out] at c
  refine (c).mono ?_
  rintro e w2 ⟨D, d, ds, rfl, hds, hod, hb⟩
  replace h := Below.step h hb
  replace hx0 := hx0.kept hb
  clear hb ahx0 bhx0 lhx0
  obtain ⟨ahx0, bhx0⟩ := hx0.two
  have lhx0 := hx0.lt
  go_wp2_with fail
  refine (commonDivisor_any x y _ (by omega) (by omega)).mono ?_
  rintro e w3 ⟨rfl, hb⟩
  replace h := Below.step h hb
  replace hx0 := hx0.kept hb
  clear hb ahx0 bhx0 lhx0
  obtain ⟨ahx0, bhx0⟩ := hx0.two
  have lhx0 := hx0.lt
  rw [hGy.out]
  go_wp2_with fail
  go_ret2
  exact ⟨rfl, h⟩

theorem lawDivisorWith_any (neg0 : Bool) (A0 : Option Addr) (n0 c0 : Nat) (xs0 : List Int) (z1 : Int) (w : World) (hm0 : n0 ≤ 9223372036854775807) (hr0 : Rd w w.heap.size A0 n0 xs0) (_hz : -9223372036854775808 ≤ z1 ∧ z1 ≤ 9223372036854775807) :
    Calls Try.prog 11 #[.agg #[.bool neg0, .slice A0 n0 c0], .int .i64 z1] w fun e w' => e = .returned (.bool true) ∧ Below w.heap.size w w' := by
  by_cases hg0 : Good neg0 xs0
  · by_cases hlo : z1 < 1
    · exact lawDivisorWith_core neg0 A0 n0 c0 xs0 z1 w hm0 hr0 _ _ (fun h0 A0 c0 w r0 _ => dwS_lo neg0 A0 c0 xs0 z1 w h0 r0 hg0 hlo) (fun h0 A0 c0 w r0 _ => dwI_lo neg0 A0 c0 xs0 z1 w h0 r0 hg0 hlo)
    · by_cases hhi : 1000000000000 < z1
      · exact lawDivisorWith_core neg0 A0 n0 c0 xs0 z1 w hm0 hr0 _ _ (fun h0 A0 c0 w r0 _ => dwS_hi neg0 A0 c0 xs0 z1 w h0 r0 hg0 hhi) (fun h0 A0 c0 w r0 _ => dwI_hi neg0 A0 c0 xs0 z1 w h0 r0 hg0 hhi)
      · obtain ⟨x, rfl⟩ : ∃ x : Nat, z1 = x := ⟨z1.toNat, by omega⟩
        exact lawDivisorWith_core neg0 A0 n0 c0 xs0 x w hm0 hr0 _ _ (fun h0 A0 c0 w r0 _ => dwS_yes neg0 A0 c0 xs0 x w h0 r0 hg0 (by omega) (by omega) _ rfl) (fun h0 A0 c0 w r0 _ => dwI_yes neg0 A0 c0 xs0 x w h0 r0 hg0 (by omega) (by omega) _ rfl)
  · exact lawDivisorWith_core neg0 A0 n0 c0 xs0 z1 w hm0 hr0 _ _ (fun h0 A0 c0 w r0 _ => dwS_no neg0 A0 c0 xs0 z1 w h0 r0 hg0) (fun h0 A0 c0 w r0 _ => dwI_no neg0 A0 c0 xs0 z1 w h0 r0 hg0)

set_option maxHeartbeats 1000000 in
theorem dvS_no (neg0 : Bool) (A0 : Option Addr) (c0 : Nat) (xs0 : List Int) (z1 : Int) (w : World) (_hl0 : xs0.length ≤ 1048576) (_hr0 : Rd w w.heap.size A0 xs0.length xs0)  (hg : ¬ Good neg0 xs0)  :
    Calls Try.prog 29 #[.agg #[.bool neg0, .slice A0 xs0.length c0], .int .i64 z1] w (GivesWholeIntOk w false [] 0 false) := by
  have h := Below.refl w.heap.size w
  have hA := below_alloc1 w (.cells #[.bool neg0, .slice A0 xs0.length c0] 27)
  replace h := Below.step h hA
  have hx0 := Box.new w 27 #[.bool neg0, .slice A0 xs0.length c0]
  clear hA
  have hA := below_alloc1 (w.alloc (.cells #[.bool neg0, .slice A0 xs0.length c0] 27)) (.cells #[.bool false, .slice none 0 0] 27)
  replace h := Below.step h hA
  replace hx0 := hx0.kept hA
  have hxr := Box.new (w.alloc (.cells #[.bool neg0, .slice A0 xs0.length c0] 27)) 27 #[.bool false, .slice none 0 0]
  rw [show (w.alloc (.cells #[.bool neg0, .slice A0 xs0.length c0] 27)).heap.size = w.heap.size + 1 from by simp] at hxr
  clear hA
  go_enter Try.func29, Try.ntmps29
  go_wp2_with fail
  refine (bgGood_no neg0 A0 _ c0 xs0 _ (by omega) (_hr0.kept h) hg).mono ?_
  rintro e w1 ⟨rfl, hb⟩
  replace h := Below.step h hb
  replace hx0 := hx0.kept hb
  replace hxr := hxr.kept hb
  clear hb
  obtain ⟨ahx0, bhx0⟩ := hx0.two
  have lhx0 := hx0.lt
  obtain ⟨ahxr, bhxr⟩ := hxr.two
  have lhxr := hxr.lt
  have f0 := hxr.free 0
  have f1 := hxr.free 1
  go_wp2_with fail
  refine bodyPost_ret (v := .tuple #[.agg #[.bool false, .slice none 0 0], .int .i64 0, .bool false]) (by simp [results, Try.results29, go_sem, ahxr, bhxr]) rfl ⟨none, 0, rfl, World.ownsRow_nil _ _ _ _, ?_⟩
  exact (h.setCell (by first | (simp; done) | (simp; omega)) _).setCell (by first | (simp; done) | (simp; omega)) _

set_option maxHeartbeats 1000000 in
theorem dvS_lo (neg0 : Bool) (A0 : Option Addr) (c0 : Nat) (xs0 : List Int) (z1 : Int) (w : World) (_hl0 : xs0.length ≤ 1048576) (_hr0 : Rd w w.heap.size A0 xs0.length xs0) (hg0 : Good neg0 xs0) (hz : z1 < 1) :
    Calls Try.prog 29 #[.agg #[.bool neg0, .slice A0 xs0.length c0], .int .i64 z1] w (GivesWholeIntOk w false [] 0 false) := by
  have h := Below.refl w.heap.size w
  have hA := below_alloc1 w (.cells #[.bool neg0, .slice A0 xs0.length c0] 27)
  replace h := Below.step h hA
  have hx0 := Box.new w 27 #[.bool neg0, .slice A0 xs0.length c0]
  clear hA
  have hA := below_alloc1 (w.alloc (.cells #[.bool neg0, .slice A0 xs0.length c0] 27)) (.cells #[.bool false, .slice none 0 0] 27)
  replace h := Below.step h hA
  replace hx0 := hx0.kept hA
  have hxr := Box.new (w.alloc (.cells #[.bool neg0, .slice A0 xs0.length c0] 27)) 27 #[.bool false, .slice none 0 0]
  rw [show (w.alloc (.cells #[.bool neg0, .slice A0 xs0.length c0] 27)).heap.size = w.heap.size + 1 from by simp] at hxr
  clear hA
  go_enter Try.func29, Try.ntmps29
  go_wp2_with fail
  refine (bgGood_yes neg0 A0 _ c0 xs0 _ (_hr0.kept h) hg0).mono ?_
  rintro e w1 ⟨rfl, hb⟩
  replace h := Below.step h hb
  replace hx0 := hx0.kept hb
  replace hxr := hxr.kept hb
  clear hb
  obtain ⟨ahx0, bhx0⟩ := hx0.two
  have lhx0 := hx0.lt
  obtain ⟨ahxr, bhxr⟩ := hxr.two
  have lhxr := hxr.lt
  go_wp2_with fail
  refine (bgSmall_no z1 _ (by omega)).mono ?_
  rintro e w2 ⟨rfl, hb⟩
  replace h := Below.step h hb
  replace hx0 := hx0.kept hb
  replace hxr := hxr.kept hb
  clear hb ahx0 bhx0 lhx0 ahxr bhxr lhxr
  obtain ⟨ahx0, bhx0⟩ := hx0.two
  have lhx0 := hx0.lt
  obtain ⟨ahxr, bhxr⟩ := hxr.two
  have lhxr := hxr.lt
  have f0 := hxr.free 0
  have f1 := hxr.free 1
  go_wp2_with fail
  refine bodyPost_ret (v := .tuple #[.agg #[.bool false, .slice none 0 0], .int .i64 0, .bool false]) (by simp [results, Try.results29, go_sem, ahxr, bhxr]) rfl ⟨none, 0, rfl, World.ownsRow_nil _ _ _ _, ?_⟩
  exact (h.setCell (by first | (simp; done) | (simp; omega)) _).setCell (by first | (simp; done) | (simp; omega)) _

set_option maxHeartbeats 1000000 in
theorem dvS_hi (neg0 : Bool) (A0 : Option Addr) (c0 : Nat) (xs0 : List Int) (z1 : Int) (w : World) (_hl0 : xs0.length ≤ 1048576) (_hr0 : Rd w w.heap.size A0 xs0.length xs0) (hg0 : Good neg0 xs0) (hz : 1000000000000 < z1) :
    Calls Try.prog 29 #[.agg #[.bool neg0, .slice A0 xs0.length c0], .int .i64 z1] w (GivesWholeIntOk w false [] 0 false) := by
  have h := Below.refl w.heap.size w
  have hA := below_alloc1 w (.cells #[.bool neg0, .slice A0 xs0.length c0] 27)
  replace h := Below.step h hA
  have hx0 := Box.new w 27 #[.bool neg0, .slice A0 xs0.length c0]
  clear hA
  have hA := below_alloc1 (w.alloc (.cells #[.bool neg0, .slice A0 xs0.length c0] 27)) (.cells #[.bool false, .slice none 0 0] 27)
  replace h := Below.step h hA
  replace hx0 := hx0.kept hA
  have hxr := Box.new (w.alloc (.cells #[.bool neg0, .slice A0 xs0.length c0] 27)) 27 #[.bool false, .slice none 0 0]
  rw [show (w.alloc (.cells #[.bool neg0, .slice A0 xs0.length c0] 27)).heap.size = w.heap.size + 1 from by simp] at hxr
  clear hA
  go_enter Try.func29, Try.ntmps29
  go_wp2_with fail
  refine (bgGood_yes neg0 A0 _ c0 xs0 _ (_hr0.kept h) hg0).mono ?_
  rintro e w1 ⟨rfl, hb⟩
  replace h := Below.step h hb
  replace hx0 := hx0.kept hb
  replace hxr := hxr.kept hb
  clear hb
  obtain ⟨ahx0, bhx0⟩ := hx0.two
  have lhx0 := hx0.lt
  obtain ⟨ahxr, bhxr⟩ := hxr.two
  have lhxr := hxr.lt
  go_wp2_with fail
  refine (bgSmall_no z1 _ (by omega)).mono ?_
  rintro e w2 ⟨rfl, hb⟩
  replace h := Below.step h hb
  replace hx0 := hx0.kept hb
  replace hxr := hxr.kept hb
  clear hb ahx0 bhx0 lhx0 ahxr bhxr lhxr
  obtain ⟨ahx0, bhx0⟩ := hx0.two
  have lhx0 := hx0.lt
  obtain ⟨ahxr, bhxr⟩ := hxr.two
  have lhxr := hxr.lt
  have f0 := hxr.free 0
  have f1 := hxr.free 1
  go_wp2_with fail
  refine bodyPost_ret (v := .tuple #[.agg #[.bool false, .slice none 0 0], .int .i64 0, .bool false]) (by simp [results, Try.results29, go_sem, ahxr, bhxr]) rfl ⟨none, 0, rfl, World.ownsRow_nil _ _ _ _, ?_⟩
  exact (h.setCell (by first | (simp; done) | (simp; omega)) _).setCell (by first | (simp; done) | (simp; omega)) _

set_option maxHeartbeats 1000000 in
theorem dvS_yes (neg0 : Bool) (A0 : Option Addr) (c0 : Nat) (xs0 : List Int) (z : Int) (w : World) (_hl0 : xs0.length ≤ 1048576) (_hr0 : Rd w w.heap.size A0 xs0.length xs0) (hg0 : Good neg0 xs0) (hz0 : 0 < z) (hz1 : z ≤ 1000000000000) :
    ∀ q m, q = num neg0 xs0 / z → m = num neg0 xs0 % z → Calls Try.prog 29 #[.agg #[.bool neg0, .slice A0 xs0.length c0], .int .i64 z] w (GivesWholeIntOk w (decide (q < 0)) (digs q.natAbs) m true) := by
  intro q m hq hm
  have hql : (digs q.natAbs).length ≤ 400 := by rw [hq]; exact quo_len hg0
  have l0 := hg0.len
  replace hq := Lib.hid hq
  replace hm := Lib.hid hm
  have h := Below.refl w.heap.size w
  have hA := below_alloc1 w (.cells #[.bool neg0, .slice A0 xs0.length c0] 27)
  replace h := Below.step h hA
  have hx0 := Box.new w 27 #[.bool neg0, .slice A0 xs0.length c0]
  clear hA
  have hA := below_alloc1 (w.alloc (.cells #[.bool neg0, .slice A0 xs0.length c0] 27)) (.cells #[.bool false, .slice none 0 0] 27)
  replace h := Below.step h hA
  replace hx0 := hx0.kept hA
  have hxr := Box.new (w.alloc (.cells #[.bool neg0, .slice A0 xs0.length c0] 27)) 27 #[.bool false, .slice none 0 0]
  rw [show (w.alloc (.cells #[.bool neg0, .slice A0 xs0.length c0] 27)).heap.size = w.heap.size + 1 from by simp] at hxr
  clear hA
  go_enter Try.func29, Try.ntmps29
  go_wp2_with fail
  refine (bgGood_yes neg0 A0 _ c0 xs0 _ (_hr0.kept h) hg0).mono ?_
  rintro e w1 ⟨rfl, hb⟩
  replace h := Below.step h hb
  replace hx0 := hx0.kept hb
  replace hxr := hxr.kept hb
  clear hb
  obtain ⟨ahx0, bhx0⟩ := hx0.two
  have lhx0 := hx0.lt
  obtain ⟨ahxr, bhxr⟩ := hxr.two
  have lhxr := hxr.lt
  go_wp2_with fail
  refine (bgSmall_yes z _ hz0 hz1).mono ?_
  rintro e w2 ⟨rfl, hb⟩
  replace h := Below.step h hb
  replace hx0 := hx0.kept hb
  replace hxr := hxr.kept hb
  clear hb ahx0 bhx0 lhx0 ahxr bhxr lhxr
  obtain ⟨ahx0, bhx0⟩ := hx0.two
  have lhx0 := hx0.lt
  obtain ⟨ahxr, bhxr⟩ := hxr.two
  have lhxr := hxr.lt
  go_wp2_with fail
  have hbase := h.size
  refine (bgOver_any neg0 A0 c0 xs0 z _ (by omega) (_hr0.kept h) hg0.rng hz0 hz1 q m hq.out hm.out).mono ?_
  rintro e w3 ⟨Aq, cq, rfl, hoq, hb⟩
  replace h := Below.step h hb
  replace hx0 := hx0.kept hb
  replace hxr := hxr.kept hb
  clear hb ahx0 bhx0 lhx0 ahxr bhxr lhxr
  obtain ⟨ahx0, bhx0⟩ := hx0.two
  have lhx0 := hx0.lt
  obtain ⟨ahxr, bhxr⟩ := hxr.two
  have lhxr := hxr.lt
  go_wp2_with fail
  have hA := below_alloc1 w3 (.cells #[.bool (decide (q < 0)), .slice Aq (digs q.natAbs).length cq] 27)
  replace h := Below.step h hA
  replace hx0 := hx0.kept hA
  replace hxr := hxr.kept hA
  have hxq := Box.new w3 27 #[.bool (decide (q < 0)), .slice Aq (digs q.natAbs).length cq]
  replace hoq := hoq.alloc (.cells #[.bool (decide (q < 0)), .slice Aq (digs q.natAbs).length cq] 27)
  clear hA ahx0 bhx0 lhx0 ahxr bhxr lhxr
  refine (bgGood_yes (decide (q < 0)) Aq _ cq (digs q.natAbs) _ hoq.rd (good_num q hql)).mono ?_
  rintro e w4 ⟨rfl, hb⟩
  replace h := Below.step h hb
  replace hx0 := hx0.kept hb
  replace hxr := hxr.kept hb
  replace hxq := hxq.kept hb
  replace hoq := hoq.kept hb
  clear hb
  obtain ⟨ahx0, bhx0⟩ := hx0.two
  have lhx0 := hx0.lt
  obtain ⟨ahxr, bhxr⟩ := hxr.two
  have lhxr := hxr.lt
  obtain ⟨ahxq, bhxq⟩ := hxq.two
  have lhxq := hxq.lt
  have f0 := hxr.free 0
  have f1 := hxr.free 1
  go_wp2_with fail
  refine bodyPost_ret (v := .tuple #[.agg #[.bool (decide (q < 0)), .slice Aq (digs q.natAbs).length cq], .int .i64 m, .bool true]) (by simp [results, Try.results29, go_sem, ahxr, bhxr]) rfl ⟨Aq, cq, rfl, ?_, ?_⟩
  · exact ((hoq.set_box hxr (by decide)).set_box (hxr.set 0 _) (by decide)).le hbase
  · exact (h.setCell (by first | (simp; done) | (simp; omega)) _).setCell (by first | (simp; done) | (simp; omega)) _

set_option maxHeartbeats 1000000 in
theorem dvI_no (neg0 : Bool) (A0 : Option Addr) (c0 : Nat) (xs0 : List Int) (z1 : Int) (w : World) (_hl0 : xs0.length ≤ 1048576) (_hr0 : Rd w w.heap.size A0 xs0.length xs0)  (hg : ¬ Good neg0 xs0)  :
    Calls Try.prog 30 #[.agg #[.bool neg0, .slice A0 xs0.length c0], .int .i64 z1] w (GivesWholeIntOk w false [] 0 false) := by
  have h := Below.refl w.heap.size w
  have hA := below_alloc1 w (.cells #[.bool neg0, .slice A0 xs0.length c0] 27)
  replace h := Below.step h hA
  have hx0 := Box.new w 27 #[.bool neg0, .slice A0 xs0.length c0]
  clear hA
  have hA := below_alloc1 (w.alloc (.cells #[.bool neg0, .slice A0 xs0.length c0] 27)) (.cells #[.bool false, .slice none 0 0] 27)
  replace h := Below.step h hA
  replace hx0 := hx0.kept hA
  have hxr := Box.new (w.alloc (.cells #[.bool neg0, .slice A0 xs0.length c0] 27)) 27 #[.bool false, .slice none 0 0]
  rw [show (w.alloc (.cells #[.bool neg0, .slice A0 xs0.length c0] 27)).heap.size = w.heap.size + 1 from by simp] at hxr
  clear hA
  go_enter Try.func30, Try.ntmps30
  go_wp2_with fail
  refine (isWholeI_no neg0 A0 _ c0 xs0 _ (by omega) (_hr0.kept h) hg).mono ?_
  rintro e w1 ⟨rfl, hb⟩
  replace h := Below.step h hb
  replace hx0 := hx0.kept hb
  replace hxr := hxr.kept hb
  clear hb
  obtain ⟨ahx0, bhx0⟩ := hx0.two
  have lhx0 := hx0.lt
  obtain ⟨ahxr, bhxr⟩ := hxr.two
  have lhxr := hxr.lt
  have f0 := hxr.free 0
  have f1 := hxr.free 1
  go_wp2_with fail
  refine bodyPost_ret (v := .tuple #[.agg #[.bool false, .slice none 0 0], .int .i64 0, .bool false]) (by simp [results, Try.results30, go_sem, ahxr, bhxr]) rfl ⟨none, 0, rfl, World.ownsRow_nil _ _ _ _, ?_⟩
  exact (h.setCell (by first | (simp; done) | (simp; omega)) _).setCell (by first | (simp; done) | (simp; omega)) _

set_option maxHeartbeats 1000000 in
theorem dvI_lo (neg0 : Bool) (A0 : Option Addr) (c0 : Nat) (xs0 : List Int) (z1 : Int) (w : World) (_hl0 : xs0.length ≤ 1048576) (_hr0 : Rd w w.heap.size A0 xs0.length xs0) (hg0 : Good neg0 xs0) (hz : z1 < 1) :
    Calls Try.prog 30 #[.agg #[.bool neg0, .slice A0 xs0.length c0], .int .i64 z1] w (GivesWholeIntOk w false [] 0 false) := by
  have h := Below.refl w.heap.size w
  have hA := below_alloc1 w (.cells #[.bool neg0, .slice A0 xs0.length c0] 27)
  replace h := Below.step h hA
  have hx0 := Box.new w 27 #[.bool neg0, .slice A0 xs0.length c0]
  clear hA
  have hA := below_alloc1 (w.alloc (.cells #[.bool neg0, .slice A0 xs0.length c0] 27)) (.cells #[.bool false, .slice none 0 0] 27)
  replace h := Below.step h hA
  replace hx0 := hx0.kept hA
  have hxr := Box.new (w.alloc (.cells #[.bool neg0, .slice A0 xs0.length c0] 27)) 27 #[.bool false, .slice none 0 0]
  rw [show (w.alloc (.cells #[.bool neg0, .slice A0 xs0.length c0] 27)).heap.size = w.heap.size + 1 from by simp] at hxr
  clear hA
  go_enter Try.func30, Try.ntmps30
  go_wp2_with fail
  refine (isWholeI_yes neg0 A0 _ c0 xs0 _ (_hr0.kept h) hg0).mono ?_
  rintro e w1 ⟨rfl, hb⟩
  replace h := Below.step h hb
  replace hx0 := hx0.kept hb
  replace hxr := hxr.kept hb
  clear hb
  obtain ⟨ahx0, bhx0⟩ := hx0.two
  have lhx0 := hx0.lt
  obtain ⟨ahxr, bhxr⟩ := hxr.two
  have lhxr := hxr.lt
  have f0 := hxr.free 0
  have f1 := hxr.free 1
  go_wp2_with fail
  refine bodyPost_ret (v := .tuple #[.agg #[.bool false, .slice none 0 0], .int .i64 0, .bool false]) (by simp [results, Try.results30, go_sem, ahxr, bhxr]) rfl ⟨none, 0, rfl, World.ownsRow_nil _ _ _ _, ?_⟩
  exact (h.setCell (by first | (simp; done) | (simp; omega)) _).setCell (by first | (simp; done) | (simp; omega)) _

set_option maxHeartbeats 1000000 in
theorem dvI_hi (neg0 : Bool) (A0 : Option Addr) (c0 : Nat) (xs0 : List Int) (z1 : Int) (w : World) (_hl0 : xs0.length ≤ 1048576) (_hr0 : Rd w w.heap.size A0 xs0.length xs0) (hg0 : Good neg0 xs0) (hz : 1000000000000 < z1) :
    Calls Try.prog 30 #[.agg #[.bool neg0, .slice A0 xs0.length c0], .int .i64 z1] w (GivesWholeIntOk w false [] 0 false) := by
  have h := Below.refl w.heap.size w
  have hA := below_alloc1 w (.cells #[.bool neg0, .slice A0 xs0.length c0] 27)
  replace h := Below.step h hA
  have hx0 := Box.new w 27 #[.bool neg0, .slice A0 xs0.length c0]
  clear hA
  have hA := below_alloc1 (w.alloc (.cells #[.bool neg0, .slice A0 xs0.length c0] 27)) (.cells #[.bool false, .slice none 0 0] 27)
  replace h := Below.step h hA
  replace hx0 := hx0.kept hA
  have hxr := Box.new (w.alloc (.cells #[.bool neg0, .slice A0 xs0.length c0] 27)) 27 #[.bool false, .slice none 0 0]
  rw [show (w.alloc (.cells #[.bool neg0, .slice A0 xs0.length c0] 27)).heap.size = w.heap.size + 1 from by simp] at hxr
  clear hA
  have hz2 : ¬ z1 < 1 := by omega
  go_enter Try.func30, Try.ntmps30
  go_wp2_with fail
  refine (isWholeI_yes neg0 A0 _ c0 xs0 _ (_hr0.kept h) hg0).mono ?_
  rintro e w1 ⟨rfl, hb⟩
  replace h := Below.step h hb
  replace hx0 := hx0.kept hb
  replace hxr := hxr.kept hb
  clear hb
  obtain ⟨ahx0, bhx0⟩ := hx0.two
  have lhx0 := hx0.lt
  obtain ⟨ahxr, bhxr⟩ := hxr.two
  have lhxr := hxr.lt
  have f0 := hxr.free 0
  have f1 := hxr.free 1
  go_wp2_with fail
  refine bodyPost_ret (v := .tuple #[.agg #[.bool false, .slice none 0 0], .int .i64 0, .bool false]) (by simp [results, Try.results30, go_sem, ahxr, bhxr]) rfl ⟨none, 0, rfl, World.ownsRow_nil _ _ _ _, ?_⟩
  exact (h.setCell (by first | (simp; done) | (simp; omega)) _).setCell (by first | (simp; done) | (simp; omega)) _

set_option maxHeartbeats 1000000 in
theorem dvI_yes_up (neg0 : Bool) (A0 : Option Addr) (c0 : Nat) (xs0 : List Int) (z : Int) (w : World) (_hl0 : xs0.length ≤ 1048576) (_hr0 : Rd w w.heap.size A0 xs0.length xs0) (hg0 : Good neg0 xs0) (hz0 : 0 < z) (hz1 : z ≤ 1000000000000) (hc : neg0 = false ∨ (neg0 = true ∧ val xs0 % z = 0)) :
    ∀ q m, q = num neg0 xs0 / z → m = num neg0 xs0 % z → Calls Try.prog 30 #[.agg #[.bool neg0, .slice A0 xs0.length c0], .int .i64 z] w (GivesWholeIntOk w (decide (q < 0)) (digs q.natAbs) m true) := by
  intro q m hq hm
  have hql : (digs q.natAbs).length ≤ 400 := by rw [hq]; exact quo_len hg0
  have l0 := hg0.len
  obtain ⟨r, hr⟩ : ∃ r, r = val xs0 % z := ⟨_, rfl⟩
  obtain ⟨v, hv⟩ : ∃ v, v = val xs0 / z := ⟨_, rfl⟩
  have hr0 : 0 ≤ r := by rw [hr]; exact Int.emod_nonneg _ (by omega)
  have hr1 : r < z := by rw [hr]; exact Int.emod_lt_of_pos _ hz0
  have hv0 : 0 ≤ v := by rw [hv]; exact Int.ediv_nonneg (val_nonneg hg0.rng) (by omega)
  have hvr : val xs0 = z * v + r := by rw [hv, hr]; exact (Int.mul_ediv_add_emod _ _).symm
  have hvl : (digs v.toNat).length ≤ 400 := by
    have h1 := quo_len (z := z) (neg := false) ⟨hg0.1, hg0.2.1, fun _ => rfl, hg0.2.2.2⟩
    rw [show num false xs0 = val xs0 from rfl, ← hv] at h1
    rwa [show v.natAbs = v.toNat from by omega] at h1
  have hdv : val (digs v.toNat) = v := by rw [digs_val]; omega
  have hqv : q = num neg0 (digs v.toNat) ∧ m = r := by
    rcases hc with rfl | ⟨rfl, h0⟩
    · obtain ⟨p1, p2⟩ := floor_pos hvr hr0 hr1
      exact ⟨by rw [hq]; show val xs0 / z = val _; rw [hdv]; exact p1, by rw [hm]; exact p2⟩
    · obtain rfl : r = 0 := by omega
      obtain ⟨p1, p2⟩ := floor_neg0 hvr hz0
      exact ⟨by rw [hq]; show -val xs0 / z = -val _; rw [hdv]; exact p1, by rw [hm]; exact p2⟩
  have hgd : neg0 = false ∨ (neg0 = true ∧ decide (0 < r) = false) := by
    rcases hc with h | ⟨h, h0⟩
    · exact .inl h
    · exact .inr ⟨h, by rw [hr, h0]; rfl⟩
  clear hc
  replace hqv := Lib.hid hqv
  replace hdv := Lib.hid hdv
  replace hvr := Lib.hid hvr
  replace hr := Lib.hid hr
  replace hv := Lib.hid hv
  replace hq := Lib.hid hq
  replace hm := Lib.hid hm
  have h := Below.refl w.heap.size w
  have hA := below_alloc1 w (.cells #[.bool neg0, .slice A0 xs0.length c0] 27)
  replace h := Below.step h hA
  have hx0 := Box.new w 27 #[.bool neg0, .slice A0 xs0.length c0]
  clear hA
  have hA := below_alloc1 (w.alloc (.cells #[.bool neg0, .slice A0 xs0.length c0] 27)) (.cells #[.bool false, .slice none 0 0] 27)
  replace h := Below.step h hA
  replace hx0 := hx0.kept hA
  have hxr := Box.new (w.alloc (.cells #[.bool neg0, .slice A0 xs0.length c0] 27)) 27 #[.bool false, .slice none 0 0]
  rw [show (w.alloc (.cells #[.bool neg0, .slice A0 xs0.length c0] 27)).heap.size = w.heap.size + 1 from by simp] at hxr
  clear hA
  go_enter Try.func30, Try.ntmps30
  go_wp2_with fail
  refine (isWholeI_yes neg0 A0 _ c0 xs0 _ (_hr0.kept h) hg0).mono ?_
  rintro e w1 ⟨rfl, hb⟩
  replace h := Below.step h hb
  replace hx0 := hx0.kept hb
  replace hxr := hxr.kept hb
  clear hb
  obtain ⟨ahx0, bhx0⟩ := hx0.two
  have lhx0 := hx0.lt
  obtain ⟨ahxr, bhxr⟩ := hxr.two
  have lhxr := hxr.lt
  go_wp2_with fail
  have c := divideLimbs_any A0 xs0.length c0 xs0 z w1 (by omega) (_hr0.kept h) hg0.rng hz0 hz1
  rw [← hr.out, ← hv.out] at c
  have hbase := h.size
  refine (c).mono ?_
  rintro e w2 ⟨D, d, ds, rfl, hds, hod, hb⟩
  replace h := Below.step h hb
  replace hx0 := hx0.kept hb
  replace hxr := hxr.kept hb
  clear hb ahx0 bhx0 lhx0 ahxr bhxr lhxr
  obtain ⟨ahx0, bhx0⟩ := hx0.two
  have lhx0 := hx0.lt
  obtain ⟨ahxr, bhxr⟩ := hxr.two
  have lhxr := hxr.lt
  obtain ⟨l1, l2⟩ : ds.length ≤ 400 ∧ Rng 0 9999 ds := by rw [hds]; exact ⟨hvl, digs_rng _⟩
  replace hds := Lib.hid hds
  rcases hgd with rfl | ⟨rfl, hgd⟩
  · go_wp2_with fail
    have hz : num false ds = q := by rw [hqv.out.1, hds.out]
    have hmm : m = r := hqv.out.2
    clear hds
    have cw := wholeWith_any false D d _ ds _ (by omega) hod l2
    rw [hz] at cw
    refine cw.mono ?_
    rintro e w8 hres
    obtain ⟨Aq, cq, rfl, hoq, hb⟩ := GivesRes.good hql hres
    replace h := Below.step h hb
    replace hx0 := hx0.kept hb
    replace hxr := hxr.kept hb
    clear hb ahx0 bhx0 lhx0 ahxr bhxr lhxr
    obtain ⟨ahx0, bhx0⟩ := hx0.two
    have lhx0 := hx0.lt
    obtain ⟨ahxr, bhxr⟩ := hxr.two
    have lhxr := hxr.lt
    have f0 := hxr.free 0
    have f1 := hxr.free 1
    go_wp2_with fail
    refine bodyPost_ret (v := .tuple #[.agg #[.bool (decide (q < 0)), .slice Aq (digs q.natAbs).length cq], .int .i64 r, .bool true]) (by simp [results, Try.results30, go_sem, ahxr, bhxr, lhxr]) rfl ?_
    rw [hmm]
    refine ⟨Aq, cq, rfl, ?_, ?_⟩
    · exact (((hoq.set_box hxr (by decide)).set_box (hxr.set 0 _) (by decide)).alloc _).le hbase
    · exact Below.step ((h.setCell (by first | (simp; done) | (simp; omega)) _).setCell (by first | (simp; done) | (simp; omega)) _) (below_alloc1 _ _)
  · have hgd' : decide (0 < r) = false := hgd
    go_wp2_with fail
    have hz : num true ds = q := by rw [hqv.out.1, hds.out]
    have hmm : m = r := hqv.out.2
    clear hds
    have cw := wholeWith_any true D d _ ds _ (by omega) hod l2
    rw [hz] at cw
    refine cw.mono ?_
    rintro e w8 hres
    obtain ⟨Aq, cq, rfl, hoq, hb⟩ := GivesRes.good hql hres
    replace h := Below.step h hb
    replace hx0 := hx0.kept hb
    replace hxr := hxr.kept hb
    clear hb ahx0 bhx0 lhx0 ahxr bhxr lhxr
    obtain ⟨ahx0, bhx0⟩ := hx0.two
    have lhx0 := hx0.lt
    obtain ⟨ahxr, bhxr⟩ := hxr.two
    have lhxr := hxr.lt
    have f0 := hxr.free 0
    have f1 := hxr.free 1
    go_wp2_with fail
    refine bodyPost_ret (v := .tuple #[.agg #[.bool (decide (q < 0)), .slice Aq (digs q.natAbs).length cq], .int .i64 r, .bool true]) (by simp [results, Try.results30, go_sem, ahxr, bhxr, lhxr]) rfl ?_
    rw [hmm]
    refine ⟨Aq, cq, rfl, ?_, ?_⟩
    · exact (((hoq.set_box hxr (by decide)).set_box (hxr.set 0 _) (by decide)).alloc _).le hbase
    · exact Below.step ((h.setCell (by first | (simp; done) | (simp; omega)) _).setCell (by first | (simp; done) | (simp; omega)) _) (below_alloc1 _ _)

set_option maxHeartbeats 1000000 in
theorem dvI_yes_down (A0 : Option Addr) (c0 : Nat) (xs0 : List Int) (z : Int) (w : World) (_hl0 : xs0.length ≤ 1048576) (_hr0 : Rd w w.heap.size A0 xs0.length xs0) (hg0 : Good true xs0) (hz0 : 0 < z) (hz1 : z ≤ 1000000000000) (hrp : 0 < val xs0 % z) :
    ∀ q m, q = num true xs0 / z → m = num true xs0 % z → Calls Try.prog 30 #[.agg #[.bool true, .slice A0 xs0.length c0], .int .i64 z] w (GivesWholeIntOk w (decide (q < 0)) (digs q.natAbs) m true) := by
  intro q m hq hm
  have hql : (digs q.natAbs).length ≤ 400 := by rw [hq]; exact quo_len hg0
  have l0 := hg0.len
  obtain ⟨r, hr⟩ : ∃ r, r = val xs0 % z := ⟨_, rfl⟩
  obtain ⟨v, hv⟩ : ∃ v, v = val xs0 / z := ⟨_, rfl⟩
  have hr0 : 0 ≤ r := by rw [hr]; exact Int.emod_nonneg _ (by omega)
  have hr1 : r < z := by rw [hr]; exact Int.emod_lt_of_pos _ hz0
  have hv0 : 0 ≤ v := by rw [hv]; exact Int.ediv_nonneg (val_nonneg hg0.rng) (by omega)
  have hvr : val xs0 = z * v + r := by rw [hv, hr]; exact (Int.mul_ediv_add_emod _ _).symm
  have hvl : (digs v.toNat).length ≤ 400 := by
    have h1 := quo_len (z := z) (neg := false) ⟨hg0.1, hg0.2.1, fun _ => rfl, hg0.2.2.2⟩
    rw [show num false xs0 = val xs0 from rfl, ← hv] at h1
    rwa [show v.natAbs = v.toNat from by omega] at h1
  have hdv : val (digs v.toNat) = v := by rw [digs_val]; omega
  have hrp' : 0 < r := by rw [hr]; exact hrp
  have hqv : q = -(v + 1) ∧ m = z - r := by
    obtain ⟨p1, p2⟩ := floor_neg hvr hrp' hr1
    exact ⟨by rw [hq]; show -val xs0 / z = _; omega, by rw [hm]; exact p2⟩
  clear hrp
  replace hqv := Lib.hid hqv
  replace hdv := Lib.hid hdv
  replace hvr := Lib.hid hvr
  replace hr := Lib.hid hr
  replace hv := Lib.hid hv
  replace hq := Lib.hid hq
  replace hm := Lib.hid hm
  have h := Below.refl w.heap.size w
  have hA := below_alloc1 w (.cells #[.bool true, .slice A0 xs0.length c0] 27)
  replace h := Below.step h hA
  have hx0 := Box.new w 27 #[.bool true, .slice A0 xs0.length c0]
  clear hA
  have hA := below_alloc1 (w.alloc (.cells #[.bool true, .slice A0 xs0.length c0] 27)) (.cells #[.bool false, .slice none 0 0] 27)
  replace h := Below.step h hA
  replace hx0 := hx0.kept hA
  have hxr := Box.new (w.alloc (.cells #[.bool true, .slice A0 xs0.length c0] 27)) 27 #[.bool false, .slice none 0 0]
  rw [show (w.alloc (.cells #[.bool true, .slice A0 xs0.length c0] 27)).heap.size = w.heap.size + 1 from by simp] at hxr
  clear hA
  go_enter Try.func30, Try.ntmps30
  go_wp2_with fail
  refine (isWholeI_yes true A0 _ c0 xs0 _ (_hr0.kept h) hg0).mono ?_
  rintro e w1 ⟨rfl, hb⟩
  replace h := Below.step h hb
  replace hx0 := hx0.kept hb
  replace hxr := hxr.kept hb
  clear hb
  obtain ⟨ahx0, bhx0⟩ := hx0.two
  have lhx0 := hx0.lt
  obtain ⟨ahxr, bhxr⟩ := hxr.two
  have lhxr := hxr.lt
  go_wp2_with fail
  have c := divideLimbs_any A0 xs0.length c0 xs0 z w1 (by omega) (_hr0.kept h) hg0.rng hz0 hz1
  rw [← hr.out, ← hv.out] at c
  have hbase := h.size
  refine (c).mono ?_
  rintro e w2 ⟨D, d, ds, rfl, hds, hod, hb⟩
  replace h := Below.step h hb
  replace hx0 := hx0.kept hb
  replace hxr := hxr.kept hb
  clear hb ahx0 bhx0 lhx0 ahxr bhxr lhxr
  obtain ⟨ahx0, bhx0⟩ := hx0.two
  have lhx0 := hx0.lt
  obtain ⟨ahxr, bhxr⟩ := hxr.two
  have lhxr := hxr.lt
  obtain ⟨l1, l2⟩ : ds.length ≤ 400 ∧ Rng 0 9999 ds := by rw [hds]; exact ⟨hvl, digs_rng _⟩
  replace hds := Lib.hid hds
  have hvd : val ds = v := by rw [hds.out]; exact hdv.out
  replace hvd := Lib.hid hvd
  clear hds
  go_wp2_with fail
  have hA := below_alloc1 w2 (.cells #[.int .i64 1] 3)
  have hr1' := rd_one w2 (w2.heap.size + 1) 1 (by omega)
  have hod2 := hod.alloc (.cells #[.int .i64 1] 3)
  replace h := Below.step h hA
  replace hx0 := hx0.kept hA
  replace hxr := hxr.kept hA
  clear hA hod ahx0 bhx0 lhx0 ahxr bhxr lhxr
  have hbase2 := h.size
  have cc := combineLimbs_any D _ ds.length d 1 1 ds [1] 1 _ (.inl rfl) (by omega) (by omega) hod2.rd (by simpa using hr1') l2 ((Rng.nil _ _).cons (by omega)) (by rw [hvd.out]; simp [val_cons, val_nil]; omega)
  refine (cc).mono ?_
  rintro e w3 ⟨Ao, co, out, rfl, hoA, hRng, hval, hlenO, hb⟩
  replace h := Below.step h hb
  replace hx0 := hx0.kept hb
  replace hxr := hxr.kept hb
  clear hb
  obtain ⟨ahx0, bhx0⟩ := hx0.two
  have lhx0 := hx0.lt
  obtain ⟨ahxr, bhxr⟩ := hxr.two
  have lhxr := hxr.lt
  have hz : num true out = q := by
    rw [hqv.out.1]
    show -val out = _
    rw [hval, hvd.out]
    simp [val_cons, val_nil]
  have hmm : m = z - r := hqv.out.2
  clear hval
  go_wp2_with fail
  have cw := wholeWith_any true Ao co _ out _ hlenO hoA hRng
  rw [hz] at cw
  refine cw.mono ?_
  rintro e w8 hres
  obtain ⟨Aq, cq, rfl, hoq, hb⟩ := GivesRes.good hql hres
  replace h := Below.step h hb
  replace hx0 := hx0.kept hb
  replace hxr := hxr.kept hb
  clear hb ahx0 bhx0 lhx0 ahxr bhxr lhxr
  obtain ⟨ahx0, bhx0⟩ := hx0.two
  have lhx0 := hx0.lt
  obtain ⟨ahxr, bhxr⟩ := hxr.two
  have lhxr := hxr.lt
  have f0 := hxr.free 0
  have f1 := hxr.free 1
  go_wp2_with fail
  refine bodyPost_ret (v := .tuple #[.agg #[.bool (decide (q < 0)), .slice Aq (digs q.natAbs).length cq], .int .i64 (z - r), .bool true]) (by simp [results, Try.results30, go_sem, ahxr, bhxr, lhxr]) rfl ?_
  rw [hmm]
  refine ⟨Aq, cq, rfl, ?_, ?_⟩
  · exact (((hoq.set_box hxr (by decide)).set_box (hxr.set 0 _) (by decide)).alloc _).le hbase2
  · exact Below.step ((h.setCell (by first | (simp; done) | (simp; omega)) _).setCell (by first | (simp; done) | (simp; omega)) _) (below_alloc1 _ _)

theorem lawDivideWhole_any (neg0 : Bool) (A0 : Option Addr) (n0 c0 : Nat) (xs0 : List Int) (z1 : Int) (w : World) (hm0 : n0 ≤ 9223372036854775807) (hr0 : Rd w w.heap.size A0 n0 xs0) (_hz : -9223372036854775808 ≤ z1 ∧ z1 ≤ 9223372036854775807) :
    Calls Try.prog 8 #[.agg #[.bool neg0, .slice A0 n0 c0], .int .i64 z1] w fun e w' => e = .returned (.bool true) ∧ Below w.heap.size w w' := by
  by_cases hg0 : Good neg0 xs0
  · by_cases hlo : z1 < 1
    · exact lawDivideWhole_core neg0 A0 n0 c0 xs0 z1 w hm0 hr0 _ _ (by simp) _ _ (fun h0 A0 c0 w r0 _ => dvS_lo neg0 A0 c0 xs0 z1 w h0 r0 hg0 hlo) (fun h0 A0 c0 w r0 _ => dvI_lo neg0 A0 c0 xs0 z1 w h0 r0 hg0 hlo)
    · by_cases hhi : 1000000000000 < z1
      · exact lawDivideWhole_core neg0 A0 n0 c0 xs0 z1 w hm0 hr0 _ _ (by simp) _ _ (fun h0 A0 c0 w r0 _ => dvS_hi neg0 A0 c0 xs0 z1 w h0 r0 hg0 hhi) (fun h0 A0 c0 w r0 _ => dvI_hi neg0 A0 c0 xs0 z1 w h0 r0 hg0 hhi)
      · have hql := quo_len (z := z1) hg0
        have hS := fun (h0 : xs0.length ≤ 1048576) (A0 : Option Addr) (c0 : Nat) (w : World) (r0 : Rd w w.heap.size A0 xs0.length xs0) => dvS_yes neg0 A0 c0 xs0 z1 w h0 r0 hg0 (by omega) (by omega) _ _ rfl rfl
        have hp := Int.emod_nonneg (val xs0) (by omega : z1 ≠ 0)
        by_cases hd : neg0 = true ∧ 0 < val xs0 % z1
        · obtain ⟨rfl, hrp⟩ := hd
          exact lawDivideWhole_core true A0 n0 c0 xs0 z1 w hm0 hr0 _ _ (by omega) _ _ (fun h0 A0 c0 w r0 _ => hS h0 A0 c0 w r0) (fun h0 A0 c0 w r0 _ => dvI_yes_down A0 c0 xs0 z1 w h0 r0 hg0 (by omega) (by omega) hrp _ _ rfl rfl)
        · have hc : neg0 = false ∨ (neg0 = true ∧ val xs0 % z1 = 0) := by
            cases neg0
            · exact .inl rfl
            · exact .inr ⟨rfl, by have : ¬ 0 < val xs0 % z1 := fun h => hd ⟨rfl, h⟩
                                  omega⟩
          exact lawDivideWhole_core neg0 A0 n0 c0 xs0 z1 w hm0 hr0 _ _ (by omega) _ _ (fun h0 A0 c0 w r0 _ => hS h0 A0 c0 w r0) (fun h0 A0 c0 w r0 _ => dvI_yes_up neg0 A0 c0 xs0 z1 w h0 r0 hg0 (by omega) (by omega) hc _ _ rfl rfl)
  · exact lawDivideWhole_core neg0 A0 n0 c0 xs0 z1 w hm0 hr0 _ _ (by simp) _ _ (fun h0 A0 c0 w r0 _ => dvS_no neg0 A0 c0 xs0 z1 w h0 r0 hg0) (fun h0 A0 c0 w r0 _ => dvI_no neg0 A0 c0 xs0 z1 w h0 r0 hg0)
end Go.Proofs.Ytlkdelhmjjnnnaa
