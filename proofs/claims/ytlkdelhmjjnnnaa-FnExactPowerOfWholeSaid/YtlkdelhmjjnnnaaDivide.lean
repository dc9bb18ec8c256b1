/- Division by a small number: the model's bgOver, the program's divideLimbs, common divisors. -/
import Derived.Test.YtlkdelhmjjnnnaaAddSub
namespace Go.Proofs.Ytlkdelhmjjnnnaa
open Go.RowKit Go.Joins

theorem Own.set {w : World} {base g n c j : Nat} {xs : List Int} (h : Own w base (.slice (some ⟨g, 0, none⟩) n c) xs) (hl : xs.length = n) (d : Int) : Own (w.setCell ⟨g, j, none⟩ (.int .i64 d)) base (.slice (some ⟨g, 0, none⟩) n c) (xs.set j d) := by
  subst hl
  have h1 := (World.ownsRow.stored h j (.int .i64 d)).1
  unfold Own
  rw [List.length_set, List.map_set]
  exact h1
theorem Own.rd2 {w : World} {base g n c : Nat} {xs : List Int} (h : Own w base (.slice (some ⟨g, 0, none⟩) n c) xs) (hl : xs.length = n) (j : Nat) (hj : j < n) : w.cell? ⟨g, j, none⟩ = some (.int .i64 (xs[j]?.getD 0)) := by
  subst hl
  rw [World.ownsRow.cellAt h j (by omega), List.getElem?_map, List.getElem?_eq_getElem hj]
  simp
theorem Own.free2 {w : World} {base g n c : Nat} {xs : List Int} (h : Own w base (.slice (some ⟨g, 0, none⟩) n c) xs) (hl : xs.length = n) (j : Nat) : w.frozen? ⟨g, j, none⟩ = false := by
  subst hl
  exact World.ownsRow.frozenAt h j
theorem zeros_set (k : Nat) (D : List Int) (q : Int) : (List.replicate (k + 1) 0 ++ D).set k q = List.replicate k 0 ++ q :: D := by
  rw [List.replicate_succ', List.append_assoc, List.set_append_right _ _ (by simp)]
  simp
theorem zeros_made (n : Nat) : (List.replicate n (0 : Int) ++ []).map (Value.int .i64) = (madeCells (Value.int .i64 0).cells (n * 1)).toList := by
  show _ = (madeCells #[Value.int .i64 0] (n * 1)).toList
  rw [toList_madeCells_one]
  simp
theorem over_step {xs D : List Int} {k : Nat} {z r : Int} (hz : 0 < z) (h : val (xs.drop (k + 1)) = z * val D + r) (hr0 : 0 ≤ r) (hr1 : r < z) (hx0 : 0 ≤ xs[k]?.getD 0) (hx1 : xs[k]?.getD 0 ≤ 9999) :
    val (xs.drop k) = z * val ((r * 10000 + xs[k]?.getD 0) / z :: D) + (r * 10000 + xs[k]?.getD 0) % z ∧ 0 ≤ (r * 10000 + xs[k]?.getD 0) / z ∧ (r * 10000 + xs[k]?.getD 0) / z ≤ 9999 := by
  have hq0 : 0 ≤ (r * 10000 + xs[k]?.getD 0) / z := Int.ediv_nonneg (by omega) (by omega)
  have hq1 : (r * 10000 + xs[k]?.getD 0) / z < 10000 := Int.ediv_lt_of_lt_mul hz (by omega)
  have e := Int.mul_ediv_add_emod (r * 10000 + xs[k]?.getD 0) z
  refine ⟨?_, hq0, by omega⟩
  have e2 : z * ((r * 10000 + xs[k]?.getD 0) / z + 10000 * val D) = z * ((r * 10000 + xs[k]?.getD 0) / z) + 10000 * (z * val D) := by rw [Int.mul_add, Int.mul_left_comm z 10000]
  rw [val_drop, val_cons, h, e2]
  clear e2 h hq0 hq1
  generalize z * val D = p at *
  generalize z * ((r * 10000 + xs[k]?.getD 0) / z) = q at *
  omega

set_option maxHeartbeats 2000000 in
theorem divideLimbs_any (A : Option Addr) (n c : Nat) (xs : List Int) (z : Int) (w : World) (hn : n ≤ 1048576) (h : Rd w w.heap.size A n xs) (hx : Rng 0 9999 xs) (hz0 : 0 < z) (hz1 : z ≤ 1000000000000) :
    Calls Try.prog 58 #[.slice A n c, .int .i64 z] w fun e w' => ∃ (D : Option Addr) (d : Nat) (ds : List Int), e = .returned (.tuple #[.slice D ds.length d, .int .i64 (val xs % z)]) ∧ ds = digs (val xs / z).toNat ∧ Own w' w.heap.size (.slice D ds.length d) ds ∧ Below w.heap.size w w' := by
  obtain ⟨i0, hi, hi0, hi1, hi2⟩ := info_parts Try.info3
  have hlx : Hid (xs.length = n) := h.1
  go_enter Try.func58, Try.ntmps58
  go_wp2_with (at_make; refine wpList_make_full _ rfl _ _ 22 rfl w.heap.size 3 i0 (.int .i64 0) 1 Try.underlying22 hi hi0 hi1 .i64 .i64 _ _ n rfl rfl rfl rfl (by rw [hi2]; omega) (by unfold maxLen; omega) (Nat.le_refl _) ?_; intro w1 hown1 hg1)
  have h0 : Own w1 w.heap.size (.slice (some ⟨w.heap.size, 0, none⟩) n n) (List.replicate n 0 ++ []) := by
    unfold Own
    have hl0 : (List.replicate n (0 : Int) ++ []).length = n := by simp
    rw [hl0, zeros_made]
    first | exact hown1 | (show World.ownsRow _ _ _ _ _ _ (madeCells #[Value.int .i64 0] (n * 1)).toList; rw [Nat.mul_one]; exact hown1)
  have hb1 : Below w.heap.size w w1 := (Below.refl _ _).grown hg1 (Nat.le_refl _) (fun _ h => by cases h)
  clear hown1 hg1 hi hi0 hi1 hi2
  go_loopw [7, 8] (fun q i wr => ∃ (k : Nat) (r : Int) (D : List Int), k ≤ n ∧ i = .int .i64 ((k : Int) - 1) ∧ q = .int .i64 r ∧ Hid (D.length + k = n ∧ val (xs.drop k) = z * val D + r ∧ Rng 0 9999 D) ∧ 0 ≤ r ∧ r < z ∧ Own wr w.heap.size (.slice (some ⟨w.heap.size, 0, none⟩) n n) (List.replicate k 0 ++ D) ∧ Below w.heap.size w wr) (fun _ i _ => (intOf i + 1).toNat)
  case atStart => exact ⟨n, 0, [], Nat.le_refl _, rfl, rfl, ⟨by simp, by rw [List.drop_eq_nil_of_le (by rw [hlx.out]; omega)]; simp [val_nil], Rng.nil _ _⟩, by omega, hz0, h0, hb1⟩
  case round =>
    obtain ⟨k, r, D, hk, rfl, rfl, hv, hr0, hr1, hown, hb⟩ := hrel
    clear h0 hb1
    rcases k with _ | j
    · have hfin : Hid (val xs = z * val D + r ∧ Rng 0 9999 D ∧ D.length = n) := by
        obtain ⟨v1, v2, v3⟩ := hv.out
        exact ⟨by simpa using v2, v3, by omega⟩
      have hvn := val_nonneg hfin.out.2.1
      have hq : (val xs / z).toNat = (val D).toNat ∧ val xs % z = r := by
        have e := hfin.out.1
        refine ⟨?_, ?_⟩
        · rw [e, Int.add_comm, Int.add_mul_ediv_left _ _ (by omega), Int.ediv_eq_zero_of_lt hr0 hr1, Int.zero_add]
        · rw [e, Int.add_comm, Int.add_mul_emod_self_left, Int.emod_eq_of_lt hr0 hr1]
      replace hq := Lib.hid hq
      have hown2 : Own wr w.heap.size (.slice (some ⟨w.heap.size, 0, none⟩) D.length n) D := by
        have h1 := hown
        rw [List.replicate_zero, List.nil_append] at h1
        rw [hfin.out.2.2]; exact h1
      have ct := Lib.hid (trimLimbs_any _ n _ D wr (by rw [hfin.out.2.2]; omega) hown2 hfin.out.2.1)
      have ho3 := Lib.hid (trim_own hown2 hfin.out.2.1)
      have hdl : Hid (D.length = n) := hfin.out.2.2
      rw [hdl.out] at ct
      clear hown hown2 hv hvn
      go_wp2_with fail
      refine (ct.out).mono ?_
      rintro e w5 ⟨rfl, rfl⟩
      go_wp2_with fail
      go_ret2
      exact ⟨_, n, digs (val D).toNat, by rw [hq.out.2]; rfl, by rw [hq.out.1], ho3.out, hb⟩
    · rw [show (((j + 1 : Nat) : Int) - 1) = (j : Int) from by omega]
      obtain ⟨b, o, rfl, hbs, hc⟩ := h.2 (by omega)
      have hread : wr.cell? ⟨b, o + j, none⟩ = some (.int .i64 (xs[j]?.getD 0)) := (hb.cell (p := ⟨b, o + j, none⟩) hbs).trans (hc j (by omega))
      clear hc
      have hx9 := hx.at0 j
      obtain ⟨hx0, hx1⟩ := hx9
      obtain ⟨s1, s2, s3⟩ := over_step hz0 hv.out.2.1 hr0 hr1 hx0 hx1
      have hlr : (List.replicate (j + 1) (0 : Int) ++ D).length = n := by have := hv.out.1; simp; omega
      have hold : wr.cell? ⟨w.heap.size, j, none⟩ = some (.int .i64 0) := by
        have h1 := hown.rd2 hlr j (by omega)
        rw [h1, List.getElem?_append_left (by simp)]
        simp
      have hfr : wr.frozen? ⟨w.heap.size, j, none⟩ = false := hown.free2 hlr j
      have hown2 := hown.set (j := j) hlr ((r * 10000 + xs[j]?.getD 0) / z)
      rw [zeros_set] at hown2
      have hr2 := Int.emod_nonneg (r * 10000 + xs[j]?.getD 0) (by omega : z ≠ 0)
      have hr3 := Int.emod_lt_of_pos (r * 10000 + xs[j]?.getD 0) hz0
      have hv2 : Hid (((r * 10000 + xs[j]?.getD 0) / z :: D).length + j = n ∧ val (xs.drop j) = z * val ((r * 10000 + xs[j]?.getD 0) / z :: D) + (r * 10000 + xs[j]?.getD 0) % z ∧ Rng 0 9999 ((r * 10000 + xs[j]?.getD 0) / z :: D)) := ⟨by have := hv.out.1; simp; omega, s1, hv.out.2.2.cons ⟨s2, s3⟩⟩
      replace hown2 := Lib.hid hown2
      have hlt : j < n := by omega
      clear s1 hv hown hlr
      go_wp2_with fail
      go_roundw
      case rel => exact ⟨j, (r * 10000 + xs[j]?.getD 0) % z, (r * 10000 + xs[j]?.getD 0) / z :: D, by omega, rfl, rfl, hv2, hr2, hr3, hown2.out, hb.setCell (Nat.le_refl _) _⟩
      case measure => simp [intOf]

theorem gcd_turn (x y : Nat) : Nat.gcd y (x % y) = Nat.gcd x y := by
  rw [Nat.gcd_comm y (x % y), ← Nat.gcd_rec y x, Nat.gcd_comm]

set_option maxHeartbeats 400000 in
theorem bgCommon_any (x y : Nat) (w : World) (hx : x ≤ 9223372036854775807) (hy : y ≤ 9223372036854775807) :
    Calls Try.prog 64 #[.int .i64 (x : Int), .int .i64 (y : Int)] w fun e w' => e = .returned (.int .i64 ((Nat.gcd x y : Nat) : Int)) ∧ w = w' := by
  obtain ⟨G, hG⟩ : ∃ G, G = Nat.gcd x y := ⟨_, rfl⟩
  rw [← hG]
  have hG' := Lib.hid hG
  clear hG
  go_enter Try.func64, Try.ntmps64
  go_wp2_with fail
  go_loop [0, 1] (fun p q => ∃ a b : Nat, a ≤ 9223372036854775807 ∧ b ≤ 9223372036854775807 ∧ p = .int .i64 a ∧ q = .int .i64 b ∧ Hid (Nat.gcd a b = G)) (fun _ q => (intOf q).toNat)
  case atStart => exact ⟨x, y, hx, hy, rfl, rfl, hG'.out.symm⟩
  case round =>
    obtain ⟨a, b, ha, hb, rfl, rfl, hg⟩ := hrel
    clear hG'
    by_cases h0 : 0 < b
    · have hlt : a % b < b := Nat.mod_lt _ h0
      have hg2 : Hid (Nat.gcd b (a % b) = G) := (gcd_turn a b).trans hg.out
      go_wp2
      go_round
      case rel => exact ⟨b, a % b, hb, by omega, rfl, by simp, hg2⟩
      case measure => simp [intOf]; omega
    · have hb0 : b = 0 := by omega
      subst hb0
      have hga : Hid (a = G) := by have := hg.out; rw [Nat.gcd_zero_right] at this; exact this
      clear hg h0
      go_wp2
      go_ret
      exact ⟨by rw [hga.out]; rfl, rfl⟩

set_option maxHeartbeats 800000 in
theorem commonDivisor_any (x y : Nat) (w : World) (hx : x ≤ 9223372036854775807) (hy : y ≤ 9223372036854775807) :
    Calls Try.prog 65 #[.int .i64 (x : Int), .int .i64 (y : Int)] w fun e w' => e = .returned (.int .i64 ((Nat.gcd x y : Nat) : Int)) ∧ Below w.heap.size w w' := by
  obtain ⟨G, hG⟩ : ∃ G, G = Nat.gcd x y := ⟨_, rfl⟩
  rw [← hG]
  have hG' := Lib.hid hG
  clear hG
  go_enter Try.func65, Try.ntmps65
  go_wp2_with fail
  go_loopw [0, 1] (fun p q wr => ∃ a b : Nat, a ≤ 9223372036854775807 ∧ b ≤ 9223372036854775807 ∧ p = .int .i64 a ∧ q = .int .i64 b ∧ Hid (Nat.gcd a b = G) ∧ Below w.heap.size w wr) (fun _ q _ => (intOf q).toNat)
  case atStart => exact ⟨x, y, hx, hy, rfl, rfl, hG'.out.symm, Below.refl _ _⟩
  case round =>
    obtain ⟨a, b, ha, hb, rfl, rfl, hg, hbl⟩ := hrel
    clear hG'
    by_cases h0 : 0 < b
    · have hlt : a % b < b := Nat.mod_lt _ h0
      have hg2 : Hid (Nat.gcd b (a % b) = G) := (gcd_turn a b).trans hg.out
      have e0 : ((b : Int) != 0) = true := by rw [bne_iff_ne]; omega
      have e1 : ((b : Int) == 0) = false := beq_eq_false_iff_ne.2 (by omega)
      go_wp2
      go_region
      all_goals go_wp2
      all_goals go_roundw
      all_goals (first | (refine ⟨b, a % b, hb, by omega, rfl, by simp, hg2, ?_⟩; first | exact hbl | exact hbl.drew | exact below_of_draws hbl _) | (simp [intOf]; omega))
    · have hb0 : b = 0 := by omega
      subst hb0
      have hga : Hid (a = G) := by have := hg.out; rw [Nat.gcd_zero_right] at this; exact this
      clear hg h0
      go_wp2
      go_ret
      exact ⟨by rw [hga.out]; rfl, hbl⟩
end Go.Proofs.Ytlkdelhmjjnnnaa
