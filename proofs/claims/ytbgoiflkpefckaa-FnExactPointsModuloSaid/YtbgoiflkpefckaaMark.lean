import Derived.Test.YtbgoiflkpefckaaMem
namespace Go.Proofs.Ytbgoiflkpefckaa
open Go.RowKit Go.Joins

set_option maxHeartbeats 400000 in
theorem markIntS_any (A : Option Addr) (c base : Nat) (xs : List Int) (k : Int) (w : World) (hk0 : 0 ≤ k) (hkn : k + xs.length ≤ 4611686018427387904) (h : Own w base (.slice A xs.length c) xs) :
    Calls Try.prog 29 #[.slice A xs.length c, .int .i64 k] w fun e w' => e = .returned (.int .i64 (k + xs.length)) ∧ Own w' base (.slice A xs.length c) (marks k xs.length) ∧ w.grownBy w' (Value.slice A xs.length c).ownBlock := by
  have h' : w.ownsRow base 3 1 (.slice A xs.length c) xs.length (marked xs k 0) := by rw [marked_zero]; exact h
  obtain ⟨n, hn⟩ : ∃ n, n = xs.length := ⟨_, rfl⟩
  have hn' : Hid (n = xs.length) := hn
  rw [← hn] at h h' hkn ⊢
  clear hn
  go_enter Try.func29, Try.ntmps29
  go_wp2
  go_loopw [1, 5] (fun q i wr => ∃ j : Nat, j ≤ n ∧ i = .int .i64 j ∧ q = .int .i64 (k + j) ∧ wr.ownsRow base 3 1 (.slice A n c) n (marked xs k j) ∧ w.grownBy wr (Value.slice A n c).ownBlock) (fun _ i _ => n - (intOf i).toNat)
  case atStart => exact ⟨0, Nat.zero_le _, rfl, by simp, h', World.grownBy.refl _ _⟩
  case round =>
    obtain ⟨j, hj, rfl, rfl, hown, hg⟩ := hrel
    clear h h'
    by_cases hlt : j < n
    · obtain ⟨g, cap, hv⟩ := ownsRow_form hown (by omega)
      simp only [Value.slice.injEq] at hv
      obtain ⟨rfl, _, rfl⟩ := hv
      have hold : wr.cell? ⟨g, j, none⟩ = some (.int .i64 (xs[j]?.getD 0)) := by rw [hown.cellAt j (by omega), marked_at xs k j (by rw [← hn'.out]; omega)]
      have hfr : wr.frozen? ⟨g, j, none⟩ = false := hown.frozenAt j
      go_wp2
      go_roundw
      case rel =>
        have hst := (hown.stored j (.int .i64 (k + j)))
        rw [marked_set xs k j (by rw [← hn'.out]; omega)] at hst
        exact ⟨j + 1, by omega, by go_num, by go_num, hst.1, grown_more hg hst.2⟩
      case measure => simp [intOf]; omega
    · have hjn : Hid (j = n) := by show j = n; omega
      go_wp2
      go_ret
      refine ⟨by rw [hjn.out]; rfl, ?_, hg⟩
      have e : marked xs k n = (marks k n).map (Value.int .i64) := by rw [hn'.out, marked_all]
      unfold Own
      rw [marks_length, ← e]
      rw [hjn.out] at hown
      exact hown

set_option maxHeartbeats 400000 in
theorem heldIntS_any (A : Option Addr) (n c B : Nat) (k : Int) (w : World) (hk0 : 0 ≤ k) (hkn : k + n ≤ 4611686018427387904) (h : Rd w B A n (marks k n)) :
    Calls Try.prog 30 #[.slice A n c, .int .i64 k] w fun e w' => e = .returned (.int .i64 (k + n)) ∧ w = w' := by
  go_enter Try.func30, Try.ntmps30
  go_wp2
  go_loop [1, 5] (fun q i => ∃ j : Nat, j ≤ n ∧ i = .int .i64 j ∧ q = .int .i64 (k + j)) (fun _ i => n - (intOf i).toNat)
  case atStart => exact ⟨0, Nat.zero_le _, rfl, by simp⟩
  case round =>
    obtain ⟨j, hj, rfl, rfl⟩ := hrel
    by_cases hlt : j < n
    · obtain ⟨b, o, rfl, hbs, hc⟩ := h.2 (by omega)
      have hread := hc j hlt
      rw [marks_at k n j hlt] at hread
      clear hc h
      have he : (k + (j : Int) != k + j) = false := by simp
      go_wp2
      go_round
      case rel => exact ⟨j + 1, by omega, by go_num, by go_num⟩
      case measure => simp [intOf]; omega
    · have hjn : Hid (j = n) := by show j = n; omega
      go_wp2
      go_ret
      exact ⟨by rw [hjn.out]; rfl, rfl⟩
end Go.Proofs.Ytbgoiflkpefckaa
