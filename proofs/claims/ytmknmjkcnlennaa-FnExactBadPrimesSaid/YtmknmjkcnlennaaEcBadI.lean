/- BadPrimes of the program (written by wip/gen/ecbad.py). -/
import Derived.Test.YtmknmjkcnlennaaEcBadS
import Derived.Test.YtmknmjkcnlennaaEcAbs
namespace Go.Proofs.Ytmknmjkcnlennaa
open Go.RowKit Go.Joins

set_option maxHeartbeats 4000000 in
theorem badI_yes (a b : Int) (w : World) (F : List (Nat × Nat)) (g : EcG a b) (hF : Fac F (ecD a b).natAbs) (hn : F.length ≤ (ecD a b).natAbs) : Calls Try.prog 37 #[.agg #[.int .i64 a, .int .i64 b]] w (GivesRowOk w (bpL F F.length) true) := by
  obtain ⟨T, V, fc, fa, hFm, hf⟩ := formOf_any a b g.1 g.2.1
  have n1 := hFm.nc
  have m1 := hFm.mc
  have e1 := hFm.ec
  have k1 := hFm.cc
  obtain ⟨D, hD⟩ : ∃ D, ecD a b = D := ⟨_, rfl⟩
  have hl := ecD_le g
  rw [hD] at hl hF hn k1
  have k3 := fun W => factorsOf_yes D.natAbs W hl.1 (by omega) F hF hn
  have hN := hl.1
  have hFl : F.length ≤ 10000000000 := by omega
  have hDb : -6700000000 ≤ D ∧ D ≤ 6700000000 := by omega
  clear hFm hD hl hn
  replace k1 := Lib.hid k1
  replace hf := Lib.hid hf
  replace k3 := Lib.hid k3
  replace hF := Lib.hid hF
  have h := Below.refl w.heap.size w
  have hA := below_alloc1 w (.cells #[.int .i64 a, .int .i64 b] 25)
  have hx0 := Box.new w 25 #[.int .i64 a, .int .i64 b]
  replace h := Below.step h hA
  clear hA
  obtain ⟨k00, k01⟩ := hx0.two
  have l0 := hx0.lt
  go_enter Try.func37, Try.ntmps37
  go_wp2_with fail
  refine (isCurveI_yes a b _ g).mono ?_
  rintro e w1 ⟨rfl, hb⟩
  replace h := Below.step h hb
  replace hx0 := hx0.kept hb
  clear hb k00 k01 l0
  obtain ⟨k00, k01⟩ := hx0.two
  have l0 := hx0.lt
  go_wp2_with fail
  refine (hf.out _).mono ?_
  rintro e w2 ⟨rfl, hb⟩
  replace h := Below.step h hb
  replace hx0 := hx0.kept hb
  clear hb k00 k01 l0
  obtain ⟨k00, k01⟩ := hx0.two
  have l0 := hx0.lt
  go_wp2_with fail
  refine (k1.out _).mono ?_
  rintro e w3 ⟨rfl, hb⟩
  replace h := Below.step h hb
  replace hx0 := hx0.kept hb
  clear hb k00 k01 l0
  obtain ⟨k00, k01⟩ := hx0.two
  have l0 := hx0.lt
  go_wp2_with fail
  have hsz := h.size
  refine (k3.out _).mono ?_
  rintro e w4 ⟨Af, cf, vs, rfl, hs, hb⟩
  replace h := Below.step h hb
  replace hx0 := hx0.kept hb
  clear hb k00 k01 l0
  obtain ⟨k00, k01⟩ := hx0.two
  have l0 := hx0.lt
  have hrs := hs.rd
  rw [facL_length] at hrs ⊢
  clear hs k00 k01 l0 k1 hf k3 n1 m1 e1 hx0 hDb hsz
  obtain ⟨n, hn⟩ : ∃ n, n = F.length := ⟨_, rfl⟩
  rw [← hn] at hrs hFl ⊢
  replace hn := Lib.hid hn
  replace hN := Lib.hid hN
  have ho := own_lit1 w4 2 (base := w4.heap.size) (Nat.le_refl _)
  have h5 := below_alloc1 w4 (.cells #[.int .i64 2] 3)
  go_wp2_with fail
  go_loopw [7, 29] (fun v x wr => ∃ (j : Nat) (A : Option Addr) (c : Nat), j ≤ n ∧ x = .int .i64 j ∧ v = .slice A (bpL F j).length c ∧ Own wr w4.heap.size (.slice A (bpL F j).length c) (bpL F j) ∧ Below w4.heap.size w4 wr) (fun _ x _ => n - (intOf x).toNat)
  case atStart => exact ⟨0, _, _, Nat.zero_le _, rfl, rfl, ho, h5⟩
  case round =>
    obtain ⟨j, A, c, hj, rfl, rfl, hown, hbw⟩ := hrel
    clear ho h5
    have hlen := bpL_len F j
    by_cases hlt : j < n
    · obtain ⟨b1, o1, b2, o2, c2, rfl, r1, r2⟩ := facs_at (hrs.below hbw) hlt
      obtain ⟨q, hq⟩ : ∃ q, (F[j]?.getD (0, 0)).1 = q := ⟨_, rfl⟩
      rw [hq] at r2
      by_cases hbig : 2 < q
      · have hl := bpL_yes hq hbig
        obtain ⟨L, hL⟩ : ∃ L, L = bpL F j := ⟨_, rfl⟩
        rw [← hL] at hown hlen hl ⊢
        have hsz : w4.heap.size ≤ (wr.alloc (.cells #[.int .i64 (q : Int)] 3)).heap.size := by have := hbw.size; simp; omega
        have hrd := rd_new wr (q : Int)
        have hoa := hown.alloc (.cells #[.int .i64 (q : Int)] 3)
        have hba : Below w4.heap.size w4 (wr.alloc (.cells #[.int .i64 (q : Int)] 3)) := hbw.alloc hbw.size _
        have hlen2 : L.length + 1 ≤ 17592186044416 := by omega
        replace hl := Lib.hid hl
        replace hq := Lib.hid hq
        clear hL hF hown hbw hrs
        go_wp2_with (first
          | (at_builtin; refine wpList_append_rd _ rfl _ _ 43 rfl Try.underlying43 Try.info3 w4.heap.size _ L rfl hoa _ _ _ _ [(q : Int)] rfl hrd hlen2 hsz ?_; intro A' c' w1' hown1 hg1)
          | fail)
        have hb1 := below_own hba hoa (Nat.le_refl _) hg1
        have hll : L.length + 1 = (bpL F (j + 1)).length := by rw [← hl.out, List.length_append]; rfl
        rw [hl.out] at hown1
        rw [hll]
        clear hll
        go_roundw
        case rel => exact ⟨j + 1, A', c', by omega, by go_num, rfl, hown1, hb1⟩
        case measure => simp [intOf]; omega
      · have hl := bpL_no hq hbig
        have hnb : decide ((2 : Int) < q) = false := decide_eq_false (by omega)
        replace hl := Lib.hid hl
        replace hq := Lib.hid hq
        obtain ⟨L, hL⟩ : ∃ L, L = bpL F j := ⟨_, rfl⟩
        rw [← hL] at hown hlen hl ⊢
        clear hL hbig hF hrs
        go_wp2_with fail
        rw [hl.out] at hown ⊢
        go_roundw
        case rel => exact ⟨j + 1, A, c, by omega, by go_num, rfl, hown, hbw⟩
        case measure => simp [intOf]; omega
    · obtain rfl : j = n := by omega
      have hd : ¬ (j : Int) < j := by omega
      clear hlt
      rw [hn.out] at hown ⊢
      clear hF hrs
      go_wp2_with fail
      go_ret2
      exact ⟨A, c, rfl, hown.le h.size, h.trans (hbw.mono h.size)⟩


set_option maxHeartbeats 1000000 in
theorem badI_bad (a b : Int) (w : World) (g : ¬ EcG a b) : Calls Try.prog 37 #[.agg #[.int .i64 a, .int .i64 b]] w (GivesRowOk w [] false) := by
  have h := Below.refl w.heap.size w
  have hA := below_alloc1 w (.cells #[.int .i64 a, .int .i64 b] 25)
  have hx0 := Box.new w 25 #[.int .i64 a, .int .i64 b]
  replace h := Below.step h hA
  clear hA
  obtain ⟨k00, k01⟩ := hx0.two
  have l0 := hx0.lt
  go_enter Try.func37, Try.ntmps37
  go_wp2_with fail
  refine (isCurveI_no a b _ g).mono ?_
  rintro e w1 ⟨rfl, hb⟩
  replace h := Below.step h hb
  replace hx0 := hx0.kept hb
  clear hb k00 k01 l0
  obtain ⟨k00, k01⟩ := hx0.two
  have l0 := hx0.lt
  go_wp2_with fail
  go_ret2
  exact ⟨none, 0, rfl, own_nil _ _, h⟩

end Go.Proofs.Ytmknmjkcnlennaa
