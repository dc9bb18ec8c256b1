/- The program's multiplyLimbs: rows, then carries by the closure. -/
import Derived.Test.YtlkdelhmjjnnnaaMulPure
import Derived.Test.YtlkdelhmjjnnnaaDivide
import Derived.Test.YtlkdelhmjjnnnaaCombineI
import Derived.Deep.LoopGhost
namespace Go.Proofs.Ytlkdelhmjjnnnaa
open Go.RowKit Go.Joins

set_option maxHeartbeats 4000000 in
set_option maxRecDepth 100000 in
theorem multiplyLimbs_any (A0 : Option Addr) (n c0 : Nat) (xs0 : List Int) (A1 : Option Addr) (m c1 : Nat) (xs1 : List Int) (w : World) (hn : n ≤ 400) (hm : m ≤ 400) (hr0 : Rd w w.heap.size A0 n xs0) (hr1 : Rd w w.heap.size A1 m xs1) (hg0x : Rng 0 9999 xs0) (hg1x : Rng 0 9999 xs1) :
    Calls Try.prog 55 #[.slice A0 n c0, .slice A1 m c1] w (GivesVal w (val xs0 * val xs1)) := by
  obtain ⟨z, hz⟩ : ∃ z, z = val xs0 * val xs1 := ⟨_, rfl⟩
  rw [← hz]
  replace hz := Lib.hid hz
  obtain ⟨i0, hi, hi0, hi1, hi2⟩ := info_parts Try.info3
  have hl0 : Hid (xs0.length = n) := hr0.1
  have hl1 : Hid (xs1.length = m) := hr1.1
  obtain ⟨N, hN⟩ : ∃ N, N = n + m := ⟨_, rfl⟩
  have hNb : N ≤ 800 := by omega
  have hmk : Hid ((n : Int) + (m : Int) = (N : Int)) := by show (n : Int) + m = N; omega
  replace hN := Lib.hid hN
  go_enter Try.func55, Try.ntmps55
  go_wp2_with (at_make; refine wpList_make_full _ rfl _ _ 22 rfl w.heap.size 3 i0 (.int .i64 0) 1 Try.underlying22 hi hi0 hi1 .i64 .i64 _ _ N rfl rfl ?cL ?cC ?c1 ?c2 (Nat.le_refl _) ?_)
  case cL => exact hmk.out
  case cC => exact hmk.out
  case c1 => rw [hi2]; omega
  case c2 => unfold maxLen; omega
  intro w1 hown1 hg1
  have h0 : Own w1 w.heap.size (.slice (some ⟨w.heap.size, 0, none⟩) N N) (List.replicate N 0 ++ []) := by
    unfold Own
    have hlz : (List.replicate N (0 : Int) ++ []).length = N := by simp
    rw [hlz, zeros_made]
    first | exact hown1 | (show World.ownsRow _ _ _ _ _ _ (madeCells #[Value.int .i64 0] (N * 1)).toList; rw [Nat.mul_one]; exact hown1)
  rw [List.append_nil] at h0
  have h : Below w.heap.size w w1 := (Below.refl _ _).grown hg1 (Nat.le_refl _) (fun _ h => by cases h)
  have hlR : w.heap.size < w1.heap.size := (World.ownsRow.lt hown1 _ rfl).2
  obtain ⟨R, eR⟩ : ∃ g, g = w.heap.size := ⟨_, rfl⟩
  have hRw : w.heap.size ≤ R := by omega
  rw [← eR] at h0 hlR ⊢
  clear hown1 hg1 hi hi0 hi1 hi2
  replace eR := Lib.hid eR
  have hst : Hid ((List.replicate N (0 : Int)).length = N ∧ val (List.replicate N 0) = val (xs0.take 0) * val xs1 ∧ Bo 0 (List.replicate N 0)) := ⟨by simp, by rw [val_zeros]; simp [val_nil], Bo.zeros N⟩
  go_wp2_with fail
  go_loopg [21] n (fun g i wr => ∃ (k : Nat) (L : List Int), k ≤ n ∧ g = n - k ∧ i = .int .i64 k ∧ Hid (L.length = N ∧ val L = val (xs0.take k) * val xs1 ∧ Bo k L) ∧ Own wr R (.slice (some ⟨R, 0, none⟩) N N) L ∧ R < wr.heap.size ∧ Below w.heap.size w wr)
  case atStart => exact ⟨0, List.replicate N 0, by omega, rfl, rfl, hst, h0, hlR, h⟩
  case round =>
    obtain ⟨k, L, hk, rfl, rfl, hv, hown, hlr, hb⟩ := hrel
    clear hst h0 h hlR
    by_cases hlt : k < n
    · obtain ⟨b, o, rfl, hbs, hc⟩ := hr0.2 (by omega)
      have hread : wr.cell? ⟨b, o + k, none⟩ = some (.int .i64 (xs0[k]?.getD 0)) := (hb.cell (p := ⟨b, o + k, none⟩) hbs).trans (hc k hlt)
      clear hc
      have hv0 : Hid (L.length = N ∧ val L = val (xs0.take k) * val xs1 + 10000 ^ k * (xs0[k]?.getD 0 * val (xs1.take 0)) ∧ Bd k 0 L) := ⟨hv.out.1, by rw [hv.out.2.1]; simp [val_nil], hv.out.2.2.start⟩
      obtain ⟨x, hx⟩ : ∃ x, x = xs0[k]?.getD 0 := ⟨_, rfl⟩
      have hx9 := hg0x.at0 k
      rw [← hx] at hv0 hread hx9
      obtain ⟨hxa, hxb⟩ := hx9
      replace hx := Lib.hid hx
      clear hv
      go_wp2_with fail
      go_loopg [28] m (fun g i wr => ∃ (j : Nat) (L : List Int), j ≤ m ∧ g = m - j ∧ i = .int .i64 j ∧ Hid (L.length = N ∧ val L = val (xs0.take k) * val xs1 + 10000 ^ k * (x * val (xs1.take j)) ∧ Bd k j L) ∧ Own wr R (.slice (some ⟨R, 0, none⟩) N N) L ∧ R < wr.heap.size ∧ Below w.heap.size w wr)
      case atStart => exact ⟨0, L, by omega, rfl, rfl, hv0, hown, hlr, hb⟩
      case round =>
        clear hv0 hown hlr hb hread
        obtain ⟨j, L, hj, rfl, rfl, hv, hown, hlr, hb⟩ := hrel
        by_cases hjt : j < m
        · obtain ⟨b1, o1, rfl, hbs1, hc1⟩ := hr1.2 (by omega)
          have hread1 : wr.cell? ⟨b1, o1 + j, none⟩ = some (.int .i64 (xs1[j]?.getD 0)) := (hb.cell (p := ⟨b1, o1 + j, none⟩) hbs1).trans (hc1 j hjt)
          clear hc1
          obtain ⟨y, hy⟩ : ∃ y, y = xs1[j]?.getD 0 := ⟨_, rfl⟩
          have hy9 := hg1x.at0 j
          rw [← hy] at hread1 hy9
          obtain ⟨hya, hyb⟩ := hy9
          have hxy := limb_mul hxa hxb hya hyb
          obtain ⟨p, hp⟩ : ∃ p, p = x * y := ⟨_, rfl⟩
          have hkj : k + j < N := by rw [hN.out]; omega
          have hs := mul_step (R := L) (ys := xs1) (i := k) (k := j) (x := x) hv.out.2.1 (by rw [hl1.out]; exact hjt) (by rw [hv.out.1]; exact hkj)
          rw [← hy, ← hp] at hs
          rw [← hp] at hxy
          obtain ⟨hpa, hpb⟩ := hxy
          have hv2 : Hid ((L.set (k + j) (L[k + j]?.getD 0 + p)).length = N ∧ val (L.set (k + j) (L[k + j]?.getD 0 + p)) = val (xs0.take k) * val xs1 + 10000 ^ k * (x * val (xs1.take (j + 1))) ∧ Bd k (j + 1) (L.set (k + j) (L[k + j]?.getD 0 + p))) := ⟨by rw [List.length_set]; exact hv.out.1, hs, hv.out.2.2.step ⟨hpa, hpb⟩⟩
          obtain ⟨ha, hab, -⟩ := hv.out.2.2 (k + j)
          have hab2 : L[k + j]?.getD 0 ≤ 49990000000 := by omega
          have hold : wr.cell? ⟨R, k + j, none⟩ = some (.int .i64 (L[k + j]?.getD 0)) := hown.rd2 hv.out.1 (k + j) hkj
          have hfr : wr.frozen? ⟨R, k + j, none⟩ = false := hown.free2 hv.out.1 (k + j)
          have hown2 := hown.set (j := k + j) hv.out.1 (L[k + j]?.getD 0 + p)
          have hb2 := hb.setCell (p := ⟨R, k + j, none⟩) hRw (.int .i64 (L[k + j]?.getD 0 + p))
          have hlr2 : R < (wr.setCell ⟨R, k + j, none⟩ (.int .i64 (L[k + j]?.getD 0 + p))).heap.size := by simpa using hlr
          have hpm : x * y = p := hp.symm
          clear hp
          replace hown2 := Lib.hid hown2
          replace hy := Lib.hid hy
          replace hlr2 := Lib.hid hlr2
          clear hs hv hown hab hb hlr
          go_wp2_with fail
          go_roundg (m - (j + 1))
          case measure => omega
          case rel => exact ⟨j + 1, _, by omega, rfl, by go_num, hv2, hown2.out, hlr2.out, hb2⟩
        · obtain rfl : m = j := by omega
          have hv2 : Hid (L.length = N ∧ val L = val (xs0.take (k + 1)) * val xs1 ∧ Bo (k + 1) L) := ⟨hv.out.1, mul_row (by rw [hl0.out]; exact hlt) (by rw [hl1.out, ← hx.out]; exact hv.out.2.1), hv.out.2.2.stop⟩
          clear hv
          go_wp2_with fail
          go_roundg (n - (k + 1))
          case measure => omega
          case rel => exact ⟨k + 1, L, by omega, rfl, by go_num, hv2, hown, hlr, hb⟩
    · obtain rfl : n = k := by omega
      have hv2 : Hid (L.length = N ∧ val L = val xs0 * val xs1 ∧ Bo n L) := ⟨hv.out.1, by rw [hv.out.2.1, ← hl0.out, List.take_length], hv.out.2.2⟩
      clear hv
      go_wp2_with fail
      refine (newCarry_any wr).mono ?_
      rintro e w2 ⟨rfl, rfl⟩
      have hbx := Box.new wr 3 #[.int .i64 0]
      have hown9 := hown.alloc (.cells #[.int .i64 0] 3)
      have hb9 := Below.step hb (below_alloc1 wr (.cells #[.int .i64 0] 3))
      obtain ⟨G, hg⟩ : ∃ g, g = wr.heap.size := ⟨_, rfl⟩
      have hgc : G ≠ R := by omega
      have hGw : w.heap.size ≤ G := by omega
      rw [← hg] at hbx ⊢
      clear hown hb hlr hg
      generalize wr.alloc (.cells #[.int .i64 0] 3) = w3 at *
      go_wp2_with fail
      go_loopg [49] N (fun g i wr => ∃ (j : Nat) (c : Int) (out : List Int), j ≤ N ∧ g = N - j ∧ i = .int .i64 j ∧ Hid (out.length = j ∧ valT out (c + val (L.drop j)) = val L ∧ Rng 0 9999 out) ∧ 0 ≤ c ∧ c ≤ 10000000 ∧ Box wr G 3 #[.int .i64 c] ∧ Own wr R (.slice (some ⟨R, 0, none⟩) N N) (out ++ L.drop j) ∧ Below w.heap.size w wr)
      case atStart => exact ⟨0, 0, [], by omega, rfl, rfl, ⟨rfl, by simp [valT], Rng.nil _ _⟩, by omega, by omega, hbx, hown9, hb9⟩
      case round =>
        clear hown9 hb9 hbx
        obtain ⟨j, c, out, hj, rfl, rfl, hv, hca, hcb, hbx, hown, hb⟩ := hrel
        by_cases hjt : j < N
        · have hjl : j < L.length := by rw [hv2.out.1]; exact hjt
          have hll : (out ++ L.drop j).length = N := by have h1 := hv.out.1; have h2 := hv2.out.1; simp; omega
          obtain ⟨t, ht⟩ : ∃ t, t = L[j]?.getD 0 := ⟨_, rfl⟩
          obtain ⟨ta, tb⟩ := hv2.out.2.2 j
          rw [← ht] at ta tb
          have tb2 : t ≤ 49990000000 := by omega
          have hca2 := Lib.hid (carry_any G t c wr hbx (by omega) (by omega) (by omega) (by omega))
          have hread : wr.cell? ⟨R, j, none⟩ = some (.int .i64 t) := by rw [hown.rd2 hll j hjt, get_mid hv.out.1, ht]
          have hownG : Own (wr.setCell ⟨G, 0, none⟩ (.int .i64 ((t + c) / 10000))) R (.slice (some ⟨R, 0, none⟩) N N) (out ++ L.drop j) := ownsRow_setCell_other hown (a := ⟨G, 0, none⟩) (by simp [Value.ownBlock]; omega) _
          have hold : (wr.setCell ⟨G, 0, none⟩ (.int .i64 ((t + c) / 10000))).cell? ⟨R, j, none⟩ = some (.int .i64 t) := by rw [hownG.rd2 hll j hjt, get_mid hv.out.1, ht]
          have hfr : (wr.setCell ⟨G, 0, none⟩ (.int .i64 ((t + c) / 10000))).frozen? ⟨R, j, none⟩ = false := hownG.free2 hll j
          have hown2 := hownG.set (j := j) hll ((t + c) % 10000)
          rw [set_mid hv.out.1 hjl] at hown2
          have hv3 : Hid ((out ++ [(t + c) % 10000]).length = j + 1 ∧ valT (out ++ [(t + c) % 10000]) ((t + c) / 10000 + val (L.drop (j + 1))) = val L ∧ Rng 0 9999 (out ++ [(t + c) % 10000])) := ⟨by have := hv.out.1; simp; omega, carry_step hv.out.2.1 (by rw [← ht]; omega), hv.out.2.2.snoc (by omega)⟩
          have hbx2 : Box ((wr.setCell ⟨G, 0, none⟩ (.int .i64 ((t + c) / 10000))).setCell ⟨R, j, none⟩ (.int .i64 ((t + c) % 10000))) G 3 #[.int .i64 ((t + c) / 10000)] := (hbx.set 0 _).far (p := ⟨R, j, none⟩) hgc _
          have hb2 := (hb.setCell (p := ⟨G, 0, none⟩) hGw (.int .i64 ((t + c) / 10000))).setCell (p := ⟨R, j, none⟩) hRw (.int .i64 ((t + c) % 10000))
          have hc2 : 0 ≤ (t + c) / 10000 ∧ (t + c) / 10000 ≤ 10000000 := by omega
          replace hown2 := Lib.hid hown2
          replace hc2 := Lib.hid hc2
          replace ht := Lib.hid ht
          clear hv hown hownG tb hb hll hbx
          go_wp2_with fail
          refine (hca2.out).mono ?_
          rintro e w6 ⟨rfl, rfl⟩
          go_wp2_with fail
          go_roundg (N - (j + 1))
          case measure => omega
          case rel => exact ⟨j + 1, (t + c) / 10000, _, by omega, rfl, by go_num, hv3, hc2.out.1, hc2.out.2, hbx2, hown2.out, hb2⟩
        · obtain rfl : N = j := by omega
          have hlo : out.length = N := hv.out.1
          have hvo : val out = z := by
            have h1 := hv.out.2.1
            rw [List.drop_eq_nil_of_le (by rw [hv2.out.1]; omega), val_nil, Int.add_zero] at h1
            rw [hz.out]
            exact mul_end h1 hv.out.2.2 hca hv2.out.2.1 (by rw [hlo, hl0.out, hl1.out]; exact hN.out) hg0x hg1x
          have hown2 : Own wr R (.slice (some ⟨R, 0, none⟩) out.length N) out := by
            have h1 := hown
            rw [List.drop_eq_nil_of_le (by rw [hv2.out.1]; omega), List.append_nil] at h1
            rw [hlo]; exact h1
          replace hown2 := Lib.hid hown2
          replace hvo := Lib.hid hvo
          replace hlo := Lib.hid hlo
          have hro := Lib.hid hv.out.2.2
          clear hv hv2 hown hbx
          go_wp2_with fail
          go_ret
          exact ⟨_, N, out, by rw [hlo.out]; rfl, by rw [← eR.out]; exact hown2.out, hro.out, hvo.out, by rw [hlo.out]; omega, hb⟩
end Go.Proofs.Ytlkdelhmjjnnnaa
