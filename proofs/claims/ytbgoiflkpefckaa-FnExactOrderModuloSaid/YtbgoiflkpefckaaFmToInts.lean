/- toIntS: a law's row turned into a new one (own work). -/
import Derived.Test.YtbgoiflkpefckaaPwToInts
namespace Go.Proofs.Ytbgoiflkpefckaa
open Go.RowKit Go.Joins

set_option maxHeartbeats 400000 in
theorem toIntS_any (A : Option Addr) (n c : Nat) (xs : List Int) (w : World) (hn : n ≤ 1048576) (h : Rd w w.heap.size A n xs) :
    Calls Try.prog 24 #[.slice A n c] w (GivesOwn w xs) := by
  obtain ⟨i0, hi, hz0, hz1, hz2⟩ := info_parts Try.info3
  go_enter Try.func24, Try.ntmps24
  go_wp2_with (first | (at_make; refine wpList_make_full _ rfl _ _ 36 rfl w.heap.size 3 i0 (.int .i64 0) 1 Try.underlying36 hi hz0 hz1 .i64 .i64 _ _ n rfl rfl rfl rfl (by rw [hz2]; omega) (by unfold maxLen; omega) (Nat.le_refl _) ?_; intro w1 hown1 hgrow1))
  have hl := h.1
  have h0 : w1.ownsRow w.heap.size 3 1 (.slice (some ⟨w.heap.size, 0, none⟩) n n) n (filled xs 0) := by rw [filled_zero, hl]; exact hown1
  have hb1 : Below w.heap.size w w1 := (Below.refl _ _).grown hgrow1 (Nat.le_refl _) (fun _ h => by cases h)
  have hl' : Hid (xs.length = n) := hl
  clear hl hown1 hgrow1 hz0 hz1 hz2 hi
  go_loopw [4] (fun i wr => ∃ k : Nat, k ≤ n ∧ i = .int .i64 k ∧ wr.ownsRow w.heap.size 3 1 (.slice (some ⟨w.heap.size, 0, none⟩) n n) n (filled xs k) ∧ Below w.heap.size w wr) (fun i _ => n - (intOf i).toNat)
  case atStart => exact ⟨0, Nat.zero_le _, rfl, h0, hb1⟩
  case round =>
    obtain ⟨k, hk, rfl, hown, hb⟩ := hrel
    clear h0 hb1
    by_cases hlt : k < n
    · obtain ⟨b, o, rfl, hbs, hc⟩ := h.2 (by omega)
      have hread : wr.cell? ⟨b, o + k, none⟩ = some (.int .i64 (xs[k]?.getD 0)) := (hb.cell (p := ⟨b, o + k, none⟩) hbs).trans (hc k hlt)
      have hold : wr.cell? ⟨w.heap.size, k, none⟩ = some (.int .i64 0) := by rw [hown.cellAt k (by omega), filled_at xs k (by rw [hl'.out]; omega)]
      have hfr : wr.frozen? ⟨w.heap.size, k, none⟩ = false := hown.frozenAt k
      clear hc
      go_wp2
      go_roundw
      case rel =>
        have hst := (hown.stored k (.int .i64 (xs[k]?.getD 0)))
        rw [filled_set xs k (by rw [hl'.out]; omega)] at hst
        exact ⟨k + 1, by omega, by go_num, hst.1, hb.setCell (by simp) _⟩
      case measure => simp [intOf]; omega
    · have hkn : Hid (k = n) := by show k = n; omega
      go_wp2
      go_ret
      have e : filled xs k = xs.map (Value.int .i64) := by rw [hkn.out, ← hl'.out, filled_all]
      refine ⟨some ⟨w.heap.size, 0, none⟩, n, by rw [hl'.out]; rfl, ?_, hb⟩
      unfold Own
      rw [← e, hl'.out]
      exact hown
end Go.Proofs.Ytbgoiflkpefckaa
