/- FactorsOf: the model's mdFactors (written by wip/gen/facs.py), and the law. -/
import Derived.Test.YtmknmjkcnlennaaRsFac
import Derived.Test.YtmknmjkcnlennaaRsLaws
import Derived.Test.YtmknmjkcnlennaaSSLaw
namespace Go.Proofs.Ytmknmjkcnlennaa
open Go.RowKit Go.Joins

theorem gt_yes {d n : Nat} (h : n < d * d) : decide ((n : Int) < (d : Int) * d) = true := by
  have h1 : ((d * d : Nat) : Int) = (d : Int) * d := Int.natCast_mul d d
  simp only [decide_eq_true_eq]; omega
theorem gt_no {d n : Nat} (h : ¬ n < d * d) : decide ((n : Int) < (d : Int) * d) = false := by
  have h1 : ((d * d : Nat) : Int) = (d : Int) * d := Int.natCast_mul d d
  simp only [decide_eq_false_iff_not]; omega
theorem pow_down {r q k : Nat} (hq : 2 ≤ q) (hk : 1 ≤ k) : r * q ^ k / q = r * q ^ (k - 1) := by
  obtain ⟨j, rfl⟩ : ∃ j, k = j + 1 := ⟨k - 1, by omega⟩
  rw [Nat.pow_succ, ← Nat.mul_assoc, Nat.mul_div_cancel _ (by omega)]
  rfl
theorem least_of_step {p m q : Nat} (hl : Least q m) (hnd : NoDiv p m) (hp : 2 ≤ p) (h : m % p = 0) : q = p := (hl.eq hnd hp h).symm

set_option maxHeartbeats 8000000 in
set_option maxRecDepth 100000 in
theorem mdFactors_any (n : Nat) (w : World) (hn1 : 1 ≤ n) (hn : n ≤ 10000000000) : ∀ F : List (Nat × Nat), Fac F n → F.length ≤ n →
    Calls Try.prog 53 #[.int .i64 (n : Int)] w (GivesSS w (facL F)) := by
  intro F hF hFn
  replace hF := Lib.hid hF
  go_enter Try.func53, Try.ntmps53
  go_wp2_with fail
  go_loopw [0, 3, 4] (fun x v y wr => ∃ (m p : Nat) (F1 F2 : List (Nat × Nat)) (A : Option Addr) (c : Nat) (vs : List Value), Hid (F1 ++ F2 = F ∧ Fac F2 m ∧ NoDiv p m) ∧ 1 ≤ m ∧ m ≤ 10000000000 ∧ 2 ≤ p ∧ p ≤ 10000000001 ∧ (1 < m → p ≤ m ∧ p ≤ 100001) ∧ x = .int .i64 m ∧ y = .int .i64 p ∧
      v = .slice A (facL F1).length c ∧ SS wr w.heap.size (.slice A (facL F1).length c) (facL F1) vs ∧ Below w.heap.size w wr) (fun x _ y _ => 2 * (intOf x).toNat - (intOf y).toNat)
  case atStart => exact ⟨n, 2, [], F, none, 0, [], ⟨rfl, hF.out, NoDiv.two n⟩, hn1, hn, by omega, by omega, fun _ => by omega, rfl, rfl, rfl, SS.nil _ _, Below.refl _ _⟩
  case round =>
    obtain ⟨m, p, F1, F2, A, c, vs, hi, hm1, hm, hp2, hp3, hp, rfl, rfl, rfl, hs, hb⟩ := hrel
    clear hF
    by_cases hgt : 1 < m
    · obtain ⟨hpm, hpl⟩ := hp hgt
      obtain ⟨b0, b1⟩ := sqi hpl
      by_cases hsq : p * p ≤ m ∧ m % p ≠ 0
      · have d1 := gt_no (d := p) (n := m) (by omega)
        obtain ⟨e1, e2, e3⟩ := hi.out
        have cv := fun W => mdValuation_any m p W ⟨by omega, by omega⟩ hp2 (by omega) 0 (m : Int) ⟨by simp, fun hd => hsq.2 (Nat.mod_eq_zero_of_dvd (Int.natCast_dvd_natCast.1 hd))⟩ (by omega)
        replace cv := Lib.hid cv
        have hi2 : Hid (F1 ++ F2 = F ∧ Fac F2 m ∧ NoDiv (p + 1) m) := ⟨e1, e2, e3.succ hsq.2⟩
        have hp6 : p + 1 ≤ m ∧ p + 1 ≤ 100001 := by
          have h1 := Nat.mul_le_mul hp2 (Nat.le_refl p)
          refine ⟨by omega, ?_⟩
          apply Nat.le_of_not_lt; intro hlt
          have h3 := Nat.mul_le_mul (show 100001 ≤ p by omega) (show 100001 ≤ p by omega)
          omega
        clear hi e1 e2 e3 hsq hp
        go_wp2_with fail
        refine (cv.out _).mono ?_
        rintro e w' ⟨rfl, rfl⟩
        go_wp2_with fail
        go_roundw
        case rel => exact ⟨m, p + 1, F1, F2, A, c, vs, hi2, hm1, hm, by omega, by omega, fun _ => hp6, rfl, by go_num, rfl, hs, hb⟩
        case measure => simp [intOf]; omega
      · obtain ⟨e1, e2, e3⟩ := hi.out
        obtain ⟨q, k, F3, rfl⟩ : ∃ q k F3, F2 = (q, k) :: F3 := by
          rcases F2 with _ | ⟨⟨q, k⟩, F3⟩
          · have : m = 1 := e2
            omega
          · exact ⟨q, k, F3, rfl⟩
        obtain ⟨hl, hk, r, er, hr, hr1, hF3⟩ := e2
        have hq2 := hl.1
        have hqm : q ≤ m := Nat.le_of_dvd (by omega) (Nat.dvd_of_mod_eq_zero hl.2.1)
        have hkm := Fac.bound er hq2 hr1
        have cv := fun W => mdValuation_any m q W ⟨by omega, by omega⟩ hq2 (by omega) k r (Fac.val er hr) (by omega)
        have hrm := (lt_mul_pow (m := r) hq2 hk).1
        have hrm2 : r < m := by omega
        have hsm : 1 < r → q + 1 ≤ r ∧ q + 1 ≤ 100001 := fun h => by have := Fac.small hl hk er hr h hm; omega
        have hfin : Hid ((F1 ++ [(q, k)]) ++ F3 = F ∧ Fac F3 r ∧ NoDiv (q + 1) r) := ⟨by rw [← e1]; simp, hF3, Fac.noDiv hl er hr⟩
        have hsn := facL_snoc F1 q k
        have hlen : (facL F1).length + 1 ≤ 4398046511104 := by
          rw [facL_length]
          have h1 : (F1 ++ (q, k) :: F3).length = F.length := by rw [e1]
          rw [List.length_append, List.length_cons] at h1
          omega
        have her := Lib.hid er
        have hqp : Hid (p ≤ q) := hl.ge e3
        replace cv := Lib.hid cv
        replace hsn := Lib.hid hsn
        have hself : Hid (m < p * p → q = m) := fun h => hl.self e3 (by omega) h
        have hleast : Hid (p * p ≤ m → q = p) := fun h => least_of_step hl e3 hp2 (by
          apply Classical.byContradiction; intro h0; exact hsq ⟨h, h0⟩)
        clear hi e1 e3 hl er hr hF3 hrm hp hsq
        obtain ⟨L, hL⟩ : ∃ L, L = facL F1 := ⟨_, rfl⟩
        rw [← hL] at hs hlen hsn ⊢
        clear hL
        obtain ⟨s1, s2, s3, s4, s5, s6⟩ := hs.pair hb hb.size (q : Int) (k : Int)
        clear hs
        have q0 : ((q : Int) == 0) = false := beq_eq_false_iff_ne.2 (by omega)
        have q1 : (q : Int) ≠ 0 := by omega
        have k0 : (0 : Int) < k := by omega
        by_cases hsq : m < p * p
        · have d1 := gt_yes hsq
          have hqe := hself.out hsq
          clear hself hleast hsq
          obtain rfl : q = m := hqe
          go_wp2_with fail
          refine (cv.out _).mono ?_
          rintro e w' ⟨rfl, rfl⟩
          go_wp2_with (first
            | (at_builtin; refine wpList_append_ss _ rfl _ _ rfl w.heap.size _ L vs rfl s1 _ [(q : Int), (k : Int)] s2 s3 _ _ rfl s4 hlen s5 ?_; intro A' c' w1 hs1 hg1)
            | fail)
          have hb1 := below_ss s6 s1 (Nat.le_refl _) hg1
          clear s1 s2 s3 s4 s5 s6 hg1
          have hll : L.length + 1 = (facL (F1 ++ [(q, k)])).length := by rw [← hsn.out, List.length_append]; rfl
          rw [hsn.out] at hs1
          rw [hll]
          clear hll hsn cv
          go_wp2_with fail
          go_loop [0, 5] (fun x i => ∃ y j : Nat, j ≤ k ∧ y ≤ q ∧ Hid (y = r * q ^ j) ∧ x = .int .i64 y ∧ i = .int .i64 j) (fun _ i => (intOf i).toNat)
          case atStart => exact ⟨q, k, Nat.le_refl _, Nat.le_refl _, her.out, rfl, rfl⟩
          case round =>
            obtain ⟨y, j, hj, hy, hyj, rfl, rfl⟩ := hrel
            by_cases hj0 : 0 < j
            · obtain ⟨z, hz⟩ : ∃ z, z = y / q := ⟨_, rfl⟩
              have hyd : Hid (z = r * q ^ (j - 1)) := by show _ = _; rw [hz, hyj.out, pow_down hq2 hj0]
              have hyl : z ≤ q := by rw [hz]; exact Nat.le_trans (Nat.div_le_self y q) hy
              have hyq : (y : Int) / (q : Int) = (z : Int) := by rw [hz]; exact (Int.natCast_ediv y q).symm
              have j1 : (0 : Int) < j := by omega
              clear hyj hz
              go_wp2_with fail
              go_round
              case rel => exact ⟨z, j - 1, by omega, hyl, hyd, rfl, by go_num⟩
              case measure => simp [intOf]; omega
            · have hyr : y = r := by rw [hyj.out, show j = 0 from by omega, Nat.pow_zero, Nat.mul_one]
              have j1 : ¬ (0 : Int) < j := by omega
              clear hyj her
              subst hyr
              go_wp2_with fail
              go_roundw
              case rel => exact ⟨y, q + 1, F1 ++ [(q, k)], F3, A', c', _, hfin, hr1, by omega, by omega, by omega, hsm, rfl, by go_num, rfl, hs1, hb1⟩
              case measure => have := hqp.out; simp [intOf]; omega
        · have d1 := gt_no hsq
          have hqe := hleast.out (by omega)
          clear hself hleast hsq
          obtain rfl : q = p := hqe
          go_wp2_with fail
          refine (cv.out _).mono ?_
          rintro e w' ⟨rfl, rfl⟩
          go_wp2_with (first
            | (at_builtin; refine wpList_append_ss _ rfl _ _ rfl w.heap.size _ L vs rfl s1 _ [(q : Int), (k : Int)] s2 s3 _ _ rfl s4 hlen s5 ?_; intro A' c' w1 hs1 hg1)
            | fail)
          have hb1 := below_ss s6 s1 (Nat.le_refl _) hg1
          clear s1 s2 s3 s4 s5 s6 hg1
          have hll : L.length + 1 = (facL (F1 ++ [(q, k)])).length := by rw [← hsn.out, List.length_append]; rfl
          rw [hsn.out] at hs1
          rw [hll]
          clear hll hsn cv
          go_wp2_with fail
          go_loop [0, 5] (fun x i => ∃ y j : Nat, j ≤ k ∧ y ≤ m ∧ Hid (y = r * q ^ j) ∧ x = .int .i64 y ∧ i = .int .i64 j) (fun _ i => (intOf i).toNat)
          case atStart => exact ⟨m, k, Nat.le_refl _, Nat.le_refl _, her.out, rfl, rfl⟩
          case round =>
            obtain ⟨y, j, hj, hy, hyj, rfl, rfl⟩ := hrel
            by_cases hj0 : 0 < j
            · obtain ⟨z, hz⟩ : ∃ z, z = y / q := ⟨_, rfl⟩
              have hyd : Hid (z = r * q ^ (j - 1)) := by show _ = _; rw [hz, hyj.out, pow_down hq2 hj0]
              have hyl : z ≤ m := by rw [hz]; exact Nat.le_trans (Nat.div_le_self y q) hy
              have hyq : (y : Int) / (q : Int) = (z : Int) := by rw [hz]; exact (Int.natCast_ediv y q).symm
              have j1 : (0 : Int) < j := by omega
              clear hyj hz
              go_wp2_with fail
              go_round
              case rel => exact ⟨z, j - 1, by omega, hyl, hyd, rfl, by go_num⟩
              case measure => simp [intOf]; omega
            · have hyr : y = r := by rw [hyj.out, show j = 0 from by omega, Nat.pow_zero, Nat.mul_one]
              have j1 : ¬ (0 : Int) < j := by omega
              clear hyj her
              subst hyr
              go_wp2_with fail
              go_roundw
              case rel => exact ⟨y, q + 1, F1 ++ [(q, k)], F3, A', c', _, hfin, hr1, by omega, by omega, by omega, hsm, rfl, by go_num, rfl, hs1, hb1⟩
              case measure => have := hqp.out; simp [intOf]; omega
    · have hmm : m = 1 := by omega
      have hFF : Hid (F1 = F) := by
        obtain ⟨e1, e2, _⟩ := hi.out
        rw [hmm] at e2
        have := e2.done
        subst this
        rw [List.append_nil] at e1
        exact e1
      rw [hFF.out] at hs ⊢
      clear hi
      subst hmm
      go_wp2_with fail
      go_ret
      exact ⟨A, c, vs, rfl, hs, hb⟩

end Go.Proofs.Ytmknmjkcnlennaa
