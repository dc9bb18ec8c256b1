/- The model's bgMul: rows, then carries. -/
import Derived.Test.YtlkdelhmjjnnnaaMulPure
import Derived.Test.YtlkdelhmjjnnnaaDivide
import Derived.Deep.LoopGhost
namespace Go.Proofs.Ytlkdelhmjjnnnaa
open Go.RowKit Go.Joins

set_option maxHeartbeats 4000000 in
set_option maxRecDepth 100000 in
theorem bgMul_any (neg0 : Bool) (A0 : Option Addr) (n c0 : Nat) (xs0 : List Int) (neg1 : Bool) (A1 : Option Addr) (m c1 : Nat) (xs1 : List Int) (w : World) (hn : n ≤ 400) (hm : m ≤ 400) (hr0 : Rd w w.heap.size A0 n xs0) (hr1 : Rd w w.heap.size A1 m xs1) (hg0x : Rng 0 9999 xs0) (hg1x : Rng 0 9999 xs1) :
    ∀ z, z = num neg0 xs0 * num neg1 xs1 → Calls Try.prog 54 #[.agg #[.bool neg0, .slice A0 n c0], .agg #[.bool neg1, .slice A1 m c1]] w (GivesNum w z) := by
  intro z hz
  replace hz := Lib.hid hz
  obtain ⟨i0, hi, hi0, hi1, hi2⟩ := info_parts Try.info3
  have hl0 : Hid (xs0.length = n) := hr0.1
  have hl1 : Hid (xs1.length = m) := hr1.1
  have h : Below w.heap.size w (((w.alloc (.cells #[.bool neg0, .slice A0 n c0] 27)).alloc (.cells #[.bool neg1, .slice A1 m c1] 27)).alloc (.cells #[.bool false, .slice none 0 0] 27)) := below_alloc3 _ _ _ _
  have hx0 : Box (((w.alloc (.cells #[.bool neg0, .slice A0 n c0] 27)).alloc (.cells #[.bool neg1, .slice A1 m c1] 27)).alloc (.cells #[.bool false, .slice none 0 0] 27)) w.heap.size 27 #[.bool neg0, .slice A0 n c0] := (Box.new _ _ _).kept (below_alloc2 _ _ _)
  have hx1 : Box (((w.alloc (.cells #[.bool neg0, .slice A0 n c0] 27)).alloc (.cells #[.bool neg1, .slice A1 m c1] 27)).alloc (.cells #[.bool false, .slice none 0 0] 27)) (w.heap.size + 1) 27 #[.bool neg1, .slice A1 m c1] := by
    have := (Box.new (w.alloc (.cells #[.bool neg0, .slice A0 n c0] 27)) 27 #[.bool neg1, .slice A1 m c1]).kept (below_alloc1 _ (.cells #[.bool false, .slice none 0 0] 27))
    simpa using this
  have hxr : Box (((w.alloc (.cells #[.bool neg0, .slice A0 n c0] 27)).alloc (.cells #[.bool neg1, .slice A1 m c1] 27)).alloc (.cells #[.bool false, .slice none 0 0] 27)) (w.heap.size + 1 + 1) 27 #[.bool false, .slice none 0 0] := by
    have := Box.new ((w.alloc (.cells #[.bool neg0, .slice A0 n c0] 27)).alloc (.cells #[.bool neg1, .slice A1 m c1] 27)) 27 #[.bool false, .slice none 0 0]
    simpa using this
  obtain ⟨g0, e0⟩ : ∃ g, g = w.heap.size := ⟨_, rfl⟩
  obtain ⟨g1, e1⟩ : ∃ g, g = w.heap.size + 1 := ⟨_, rfl⟩
  obtain ⟨gr, er⟩ : ∃ g, g = w.heap.size + 1 + 1 := ⟨_, rfl⟩
  have n0 : g0 ≠ gr := by omega
  have n1 : g1 ≠ gr := by omega
  have n01 : g0 ≠ g1 := by omega
  have hgr : w.heap.size ≤ gr := by omega
  have hg0 : w.heap.size ≤ g0 := by omega
  have hg1 : w.heap.size ≤ g1 := by omega
  rw [← er] at hxr
  rw [← e1] at hx1
  rw [← e0] at hx0
  obtain ⟨N, hN⟩ : ∃ N, N = n + m := ⟨_, rfl⟩
  have hNb : N ≤ 800 := by omega
  have hmk : Hid ((n : Int) + (m : Int) = (N : Int)) := by show (n : Int) + m = N; omega
  replace hN := Lib.hid hN
  go_enter Try.func54, Try.ntmps54
  go_wp2_with (at_make; refine wpList_make_full _ rfl _ _ 22 rfl (w.heap.size + 1 + 1 + 1) 3 i0 (.int .i64 0) 1 Try.underlying22 hi hi0 hi1 .i64 .i64 _ _ N rfl rfl ?cL ?cC ?c1 ?c2 ?c3 ?_)
  case cL => exact hmk.out
  case cC => exact hmk.out
  case c1 => rw [hi2]; omega
  case c2 => unfold maxLen; omega
  case c3 => simp
  intro w1 hown1 hg1
  have h0 : Own w1 (w.heap.size + 1 + 1 + 1) (.slice (some ⟨w.heap.size + 1 + 1 + 1, 0, none⟩) N N) (List.replicate N 0 ++ []) := by
    unfold Own
    have hlz : (List.replicate N (0 : Int) ++ []).length = N := by simp
    rw [hlz, zeros_made]
    first | exact hown1 | (show World.ownsRow _ _ _ _ _ _ (madeCells #[Value.int .i64 0] (N * 1)).toList; rw [Nat.mul_one]; exact hown1)
  rw [List.append_nil] at h0
  have hb1 : Below (w.heap.size + 1 + 1 + 1) (((w.alloc (.cells #[.bool neg0, .slice A0 n c0] 27)).alloc (.cells #[.bool neg1, .slice A1 m c1] 27)).alloc (.cells #[.bool false, .slice none 0 0] 27)) w1 := (Below.refl _ _).grown hg1 (by simp) (fun _ h => by cases h)
  obtain ⟨R, eR⟩ : ∃ g, g = w.heap.size + 1 + 1 + 1 := ⟨_, rfl⟩
  rw [← eR, ← er, ← e1, ← e0]
  rw [← eR] at h0 hb1
  have hgR : gr < R := by omega
  have hg0R : g0 < R := by omega
  have hg1R : g1 < R := by omega
  have hRs : R = (((w.alloc (.cells #[.bool neg0, .slice A0 n c0] 27)).alloc (.cells #[.bool neg1, .slice A1 m c1] 27)).alloc (.cells #[.bool false, .slice none 0 0] 27)).heap.size := by simp; omega
  replace hx0 := hx0.keep hb1 hg0R
  replace hx1 := hx1.keep hb1 hg1R
  replace hxr := hxr.keep hb1 hgR
  replace h := Below.step h (by rw [← hRs]; exact hb1)
  have hRw : w.heap.size ≤ R := by omega
  clear hRs eR e0 e1 er hb1
  clear hown1 hg1 hi hi0 hi1 hi2
  have hst : Hid ((List.replicate N (0 : Int)).length = N ∧ val (List.replicate N 0) = val (xs0.take 0) * val xs1 ∧ Bo 0 (List.replicate N 0)) := ⟨by simp, by rw [val_zeros]; simp [val_nil], Bo.zeros N⟩
  obtain ⟨k00, k01⟩ := hx0.two
  obtain ⟨k10, k11⟩ := hx1.two
  go_wp2_with fail
  go_loopg [24] n (fun g i wr => ∃ (k : Nat) (L : List Int), k ≤ n ∧ g = n - k ∧ i = .int .i64 k ∧ Hid (L.length = N ∧ val L = val (xs0.take k) * val xs1 ∧ Bo k L) ∧ Own wr R (.slice (some ⟨R, 0, none⟩) N N) L ∧ Box wr g0 27 #[.bool neg0, .slice A0 n c0] ∧ Box wr g1 27 #[.bool neg1, .slice A1 m c1] ∧ Box wr gr 27 #[.bool false, .slice none 0 0] ∧ Below w.heap.size w wr)
  case atStart => exact ⟨0, List.replicate N 0, by omega, rfl, rfl, hst, h0, hx0, hx1, hxr, h⟩
  case round =>
    obtain ⟨k, L, hk, rfl, rfl, hv, hown, hy0, hy1, hyr, hb⟩ := hrel
    clear hst h0 h hx0 hx1 hxr k00 k01 k10 k11
    obtain ⟨k00, k01⟩ := hy0.two
    obtain ⟨k10, k11⟩ := hy1.two
    by_cases hlt : k < n
    · obtain ⟨b, o, rfl, hbs, hc⟩ := hr0.2 (by omega)
      have hread : wr.cell? ⟨b, o + k, none⟩ = some (.int .i64 (xs0[k]?.getD 0)) := (hb.cell (p := ⟨b, o + k, none⟩) hbs).trans (hc k hlt)
      clear hc
      have hv0 : Hid (L.length = N ∧ val L = val (xs0.take k) * val xs1 + 10000 ^ k * (xs0[k]?.getD 0 * val (xs1.take 0)) ∧ Bd k 0 L) := ⟨hv.out.1, by rw [hv.out.2.1]; simp [val_nil], hv.out.2.2.start⟩
      obtain ⟨x, hx⟩ : ∃ x, x = xs0[k]?.getD 0 := ⟨_, rfl⟩
      have hx9 := hg0x.at0 k
      rw [← hx] at hv0 hread hx9
      obtain ⟨hxa, hxb⟩ := hx9
      replace hx := Lib.hid hx
      clear hv
      go_wp2_with fail
      go_loopg [32] m (fun g i wr => ∃ (j : Nat) (L : List Int), j ≤ m ∧ g = m - j ∧ i = .int .i64 j ∧ Hid (L.length = N ∧ val L = val (xs0.take k) * val xs1 + 10000 ^ k * (x * val (xs1.take j)) ∧ Bd k j L) ∧ Own wr R (.slice (some ⟨R, 0, none⟩) N N) L ∧ Box wr g0 27 #[.bool neg0, .slice (some ⟨b, o, none⟩) n c0] ∧ Box wr g1 27 #[.bool neg1, .slice A1 m c1] ∧ Box wr gr 27 #[.bool false, .slice none 0 0] ∧ Below w.heap.size w wr)
      case atStart => exact ⟨0, L, by omega, rfl, rfl, hv0, hown, hy0, hy1, hyr, hb⟩
      case round =>
        clear hv0 hown hy0 hy1 hyr hb k00 k01 k10 k11 hread
        obtain ⟨j, L, hj, rfl, rfl, hv, hown, hy0, hy1, hyr, hb⟩ := hrel
        obtain ⟨k00, k01⟩ := hy0.two
        obtain ⟨k10, k11⟩ := hy1.two
        by_cases hjt : j < m
        · obtain ⟨b1, o1, rfl, hbs1, hc1⟩ := hr1.2 (by omega)
          have hread1 : wr.cell? ⟨b1, o1 + j, none⟩ = some (.int .i64 (xs1[j]?.getD 0)) := (hb.cell (p := ⟨b1, o1 + j, none⟩) hbs1).trans (hc1 j hjt)
          clear hc1
          obtain ⟨y, hy⟩ : ∃ y, y = xs1[j]?.getD 0 := ⟨_, rfl⟩
          have hy9 := hg1x.at0 j
          rw [← hy] at hread1 hy9
          obtain ⟨hya, hyb⟩ := hy9
          have hxy := limb_mul hxa hxb hya hyb
          obtain ⟨p, hp⟩ : ∃ p, p = x * y := ⟨_, rfl⟩
          have hkj : k + j < N := by rw [hN.out]; omega
          have hs := mul_step (R := L) (ys := xs1) (i := k) (k := j) (x := x) hv.out.2.1 (by rw [hl1.out]; exact hjt) (by rw [hv.out.1]; exact hkj)
          rw [← hy, ← hp] at hs
          rw [← hp] at hxy
          obtain ⟨hpa, hpb⟩ := hxy
          have hv2 : Hid ((L.set (k + j) (L[k + j]?.getD 0 + p)).length = N ∧ val (L.set (k + j) (L[k + j]?.getD 0 + p)) = val (xs0.take k) * val xs1 + 10000 ^ k * (x * val (xs1.take (j + 1))) ∧ Bd k (j + 1) (L.set (k + j) (L[k + j]?.getD 0 + p))) := ⟨by rw [List.length_set]; exact hv.out.1, hs, hv.out.2.2.step ⟨hpa, hpb⟩⟩
          obtain ⟨ha, hab, -⟩ := hv.out.2.2 (k + j)
          have hab2 : L[k + j]?.getD 0 ≤ 49990000000 := by omega
          have hold : wr.cell? ⟨R, k + j, none⟩ = some (.int .i64 (L[k + j]?.getD 0)) := hown.rd2 hv.out.1 (k + j) hkj
          have hfr : wr.frozen? ⟨R, k + j, none⟩ = false := hown.free2 hv.out.1 (k + j)
          have hown2 := hown.set (j := k + j) hv.out.1 (L[k + j]?.getD 0 + p)
          have hy02 := hy0.far (p := ⟨R, k + j, none⟩) (by show g0 ≠ R; omega) (.int .i64 (L[k + j]?.getD 0 + p))
          have hy12 := hy1.far (p := ⟨R, k + j, none⟩) (by show g1 ≠ R; omega) (.int .i64 (L[k + j]?.getD 0 + p))
          have hyr2 := hyr.far (p := ⟨R, k + j, none⟩) (by show gr ≠ R; omega) (.int .i64 (L[k + j]?.getD 0 + p))
          have hb2 := hb.setCell (p := ⟨R, k + j, none⟩) hRw (.int .i64 (L[k + j]?.getD 0 + p))
          have hpm : x * y = p := hp.symm
          clear hp
          replace hown2 := Lib.hid hown2
          replace hy := Lib.hid hy
          clear hs hv hown hab hy0 hy1 hyr hb
          go_wp2_with fail
          go_roundg (m - (j + 1))
          case measure => omega
          case rel => exact ⟨j + 1, _, by omega, rfl, by go_num, hv2, hown2.out, hy02, hy12, hyr2, hb2⟩
        · obtain rfl : j = m := by omega
          have hv2 : Hid (L.length = N ∧ val L = val (xs0.take (k + 1)) * val xs1 ∧ Bo (k + 1) L) := ⟨hv.out.1, mul_row (by rw [hl0.out]; exact hlt) (by rw [hl1.out, ← hx.out]; exact hv.out.2.1), hv.out.2.2.stop⟩
          clear hv
          go_wp2_with fail
          go_roundg (n - (k + 1))
          case measure => omega
          case rel => exact ⟨k + 1, L, by omega, rfl, by go_num, hv2, hown, hy0, hy1, hyr, hb⟩
    · obtain rfl : n = k := by omega
      have hv2 : Hid (L.length = N ∧ val L = val xs0 * val xs1 ∧ Bo n L) := ⟨hv.out.1, by rw [hv.out.2.1, ← hl0.out, List.take_length], hv.out.2.2⟩
      clear hv
      go_wp2_with fail
      go_loopg [10, 52] N (fun g q i wr => ∃ (j : Nat) (c : Int) (out : List Int), j ≤ N ∧ g = N - j ∧ q = .int .i64 c ∧ i = .int .i64 j ∧ Hid (out.length = j ∧ valT out (c + val (L.drop j)) = val L ∧ Rng 0 9999 out) ∧ 0 ≤ c ∧ c ≤ 10000000 ∧ Own wr R (.slice (some ⟨R, 0, none⟩) N N) (out ++ L.drop j) ∧ Box wr g0 27 #[.bool neg0, .slice A0 n c0] ∧ Box wr g1 27 #[.bool neg1, .slice A1 m c1] ∧ Box wr gr 27 #[.bool false, .slice none 0 0] ∧ Below w.heap.size w wr)
      case atStart => exact ⟨0, 0, [], by omega, rfl, rfl, rfl, ⟨rfl, by simp [valT], Rng.nil _ _⟩, by omega, by omega, hown, hy0, hy1, hyr, hb⟩
      case round =>
        clear hown hy0 hy1 hyr hb k00 k01 k10 k11
        obtain ⟨j, c, out, hj, rfl, rfl, rfl, hv, hca, hcb, hown, hy0, hy1, hyr, hb⟩ := hrel
        by_cases hjt : j < N
        · have hjl : j < L.length := by rw [hv2.out.1]; exact hjt
          have hll : (out ++ L.drop j).length = N := by have h1 := hv.out.1; have h2 := hv2.out.1; simp; omega
          obtain ⟨t, ht⟩ : ∃ t, t = L[j]?.getD 0 := ⟨_, rfl⟩
          obtain ⟨ta, tb⟩ := hv2.out.2.2 j
          rw [← ht] at ta tb
          have tb2 : t ≤ 49990000000 := by omega
          have hold : wr.cell? ⟨R, j, none⟩ = some (.int .i64 t) := by rw [hown.rd2 hll j hjt, get_mid hv.out.1, ht]
          have hfr : wr.frozen? ⟨R, j, none⟩ = false := hown.free2 hll j
          have hown2 := hown.set (j := j) hll ((t + c) % 10000)
          rw [set_mid hv.out.1 hjl] at hown2
          have hv3 : Hid ((out ++ [(t + c) % 10000]).length = j + 1 ∧ valT (out ++ [(t + c) % 10000]) ((t + c) / 10000 + val (L.drop (j + 1))) = val L ∧ Rng 0 9999 (out ++ [(t + c) % 10000])) := ⟨by have := hv.out.1; simp; omega, carry_step hv.out.2.1 (by rw [← ht]; omega), hv.out.2.2.snoc (by omega)⟩
          have hy02 := hy0.far (p := ⟨R, j, none⟩) (by show g0 ≠ R; omega) (.int .i64 ((t + c) % 10000))
          have hy12 := hy1.far (p := ⟨R, j, none⟩) (by show g1 ≠ R; omega) (.int .i64 ((t + c) % 10000))
          have hyr2 := hyr.far (p := ⟨R, j, none⟩) (by show gr ≠ R; omega) (.int .i64 ((t + c) % 10000))
          have hb2 := hb.setCell (p := ⟨R, j, none⟩) hRw (.int .i64 ((t + c) % 10000))
          have hc2 : 0 ≤ (t + c) / 10000 ∧ (t + c) / 10000 ≤ 10000000 := by omega
          replace hown2 := Lib.hid hown2
          replace hc2 := Lib.hid hc2
          replace ht := Lib.hid ht
          clear hv hown tb hy0 hy1 hyr hb hll
          go_wp2_with fail
          go_roundg (N - (j + 1))
          case measure => omega
          case rel => exact ⟨j + 1, (t + c) / 10000, _, by omega, rfl, by go_num, by go_num, hv3, hc2.out.1, hc2.out.2, hown2.out, hy02, hy12, hyr2, hb2⟩
        · obtain rfl : j = N := by omega
          have hlo : out.length = j := hv.out.1
          have hvo : val out = val xs0 * val xs1 := by
            have h1 := hv.out.2.1
            rw [List.drop_eq_nil_of_le (by rw [hv2.out.1]; omega), val_nil, Int.add_zero] at h1
            exact mul_end h1 hv.out.2.2 hca hv2.out.2.1 (by rw [hlo, hl0.out, hl1.out]; exact hN.out) hg0x hg1x
          have hown2 : Own wr R (.slice (some ⟨R, 0, none⟩) out.length j) out := by
            have h1 := hown
            rw [List.drop_eq_nil_of_le (by rw [hv2.out.1]; omega), List.append_nil] at h1
            rw [hlo]; exact h1
          have cm := bgMake_any (neg0 != neg1) (some ⟨R, 0, none⟩) out.length j out wr (by omega) (by omega) hown2.rd hv.out.2.2
          rw [num_mul hvo, ← hz.out, hlo] at cm
          replace cm := Lib.hid cm
          obtain ⟨k00, k01⟩ := hy0.two
          obtain ⟨k10, k11⟩ := hy1.two
          clear hv hv2 hown hown2 hvo hlo
          go_wp2_with fail
          refine (cm.out).mono ?_
          rintro e w2 ⟨Ar, cr, rfl, hor, hb2⟩
          have hyr2 := hyr.kept hb2
          have hb3 := Below.step hb hb2
          have hbs := hb.size
          obtain ⟨k2, k3⟩ := hyr2.two
          have k4 := hyr2.free 0
          have k5 := hyr2.free 1
          clear k00 k01 k10 k11 hb2
          go_wp2_with fail
          refine bodyPost_ret (v := .agg #[.bool (decide (z < 0)), .slice Ar (digs z.natAbs).length cr]) (by simp [results, Try.results54, go_sem, k2, k3]) rfl ⟨Ar, cr, rfl, ?_, ?_⟩
          · exact ((hor.le hbs).set_box hyr2 (by decide)).set_box (hyr2.set 0 _) (by decide)
          · exact (hb3.setCell hgr _).setCell hgr _
end Go.Proofs.Ytlkdelhmjjnnnaa
