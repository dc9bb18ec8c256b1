/- l1Put of the model, where the number stands first or goes last (written by wip/gen/ecput.py). -/
import Derived.Test.YtmknmjkcnlennaaEcRoots
namespace Go.Proofs.Ytmknmjkcnlennaa
open Go.RowKit Go.Joins

/-- Row literals. -/
theorem own_lit0 (w : World) {base : Nat} (hb : base ≤ w.heap.size) : Own (w.alloc (.cells #[] 3)) base (.slice (some ⟨w.heap.size, 0, none⟩) 0 0) [] :=
  World.ownsRow_lit w #[] 0 hb (by unfold maxLen; omega) rfl
theorem own_lit1 (w : World) (x : Int) {base : Nat} (hb : base ≤ w.heap.size) : Own (w.alloc (.cells #[.int .i64 x] 3)) base (.slice (some ⟨w.heap.size, 0, none⟩) 1 1) [x] :=
  World.ownsRow_lit w #[.int .i64 x] 1 hb (by unfold maxLen; omega) rfl
theorem Rd.addr {w : World} {B b o n : Nat} {xs : List Int} (h : Rd w B (some ⟨b, o, none⟩) n xs) (hn : 0 < n) : b < B ∧ ∀ k, k < n → w.cell? ⟨b, o + k, none⟩ = some (.int .i64 (xs[k]?.getD 0)) := by
  obtain ⟨b', o', he, hB, hc⟩ := h.2 hn
  obtain ⟨rfl, rfl⟩ : b = b' ∧ o = o' := by have := Option.some.inj he; exact ⟨congrArg Addr.block this, congrArg Addr.off this⟩
  exact ⟨hB, hc⟩
theorem Rd.none' {w : World} {B : Nat} (A : Option Addr) : Rd w B A 0 [] := ⟨rfl, fun h => by omega⟩

set_option maxHeartbeats 1000000 in
theorem l1Put_same (b o' n c : Nat) (q : Int) (xs : List Int) (w : World) (hn : 0 < n) (hn2 : n ≤ 17592186044415) (hr : Rd w w.heap.size (some ⟨b, o', none⟩) n xs) (h0 : xs[0]?.getD 0 = q) : Calls Try.prog 55 #[.slice (some ⟨b, o', none⟩) n c, .int .i64 q] w (fun e w' => e = .returned (.slice (some ⟨b, o', none⟩) n c) ∧ w = w') := by
  have hc0 := (hr.addr hn).2 0 hn
  rw [h0, Nat.add_zero] at hc0
  clear hr h0
  have h := Below.refl w.heap.size w
  go_enter Try.func55, Try.ntmps55
  go_wp2_with fail
  go_loop [5] (fun i => i = .int .i64 ((0 : Nat) : Int)) (fun _ => 0)
  case atStart => rfl
  case round =>
    subst hrel
    have g1 : (0 : Int) < n := by omega
    go_wp2_with fail
    go_ret
    exact ⟨rfl, rfl⟩


set_option maxHeartbeats 1000000 in
theorem l1Put_new (b o' n c : Nat) (q : Int) (xs : List Int) (w : World) (hn : 0 < n) (hn2 : n ≤ 17592186044415) (hcap : n ≤ c) (hr : Rd w w.heap.size (some ⟨b, o', none⟩) n xs) (hlt : ∀ k, k < n → xs[k]?.getD 0 < q) : Calls Try.prog 55 #[.slice (some ⟨b, o', none⟩) n c, .int .i64 q] w (GivesRow w (xs ++ [q])) := by
  obtain ⟨hbb, hc⟩ := hr.addr hn
  replace hc := Lib.hid hc
  replace hlt := Lib.hid hlt
  have h := Below.refl w.heap.size w
  go_enter Try.func55, Try.ntmps55
  go_wp2_with fail
  go_loop [5] (fun i => ∃ k : Nat, k ≤ n ∧ i = .int .i64 k) (fun i => n - (intOf i).toNat)
  case atStart => exact ⟨0, Nat.zero_le _, rfl⟩
  case round =>
    obtain ⟨k, hk, rfl⟩ := hrel
    by_cases hkn : k < n
    · have c1 := hc.out k hkn
      have d1 := hlt.out k hkn
      clear hc hlt
      go_wp2_with fail
      exact ⟨⟨k + 1, by omega, by simp⟩, by simp [intOf]; omega⟩
    · obtain rfl : k = n := by omega
      clear hkn hk hc hlt
      have hl := hr.1
      have ho0 := own_lit0 w (Nat.le_refl _)
      have hr0 := hr.kept (below_alloc1 w (.cells #[] 3))
      have hb0 := below_alloc1 w (.cells #[] 3)
      have hs0 := hb0.size
      have hln : ([] : List Int).length + k ≤ 17592186044416 := by simp; omega
      replace hl := Lib.hid hl
      go_wp2_with (first
        | (at_builtin; refine wpList_append_rd _ rfl _ _ 43 rfl Try.underlying43 Try.info3 w.heap.size _ [] rfl ho0 _ _ _ _ xs rfl hr0 hln hs0 ?_; intro A1 c1 w1 hown1 hg1; have hb1 := below_own hb0 ho0 (Nat.le_refl _) hg1; have hrb := ((hr.below hb1).more hb1.size).kept (below_alloc1 w1 (.cells #[.int .i64 q] 3)); rw [List.nil_append] at hown1 ⊢; clear ho0 hr0 hb0 hs0 hln hg1; have ho1 := hown1.alloc (.cells #[.int .i64 q] 3); have hb2 := Below.step hb1 (below_alloc1 w1 (.cells #[.int .i64 q] 3)); have hs1 := hb2.size; have hr1 := rd_new w1 q; have hln1 : xs.length + 1 ≤ 17592186044416 := (by have := hl.out; omega); clear hown1 hb1)
        | (at_builtin; refine wpList_append_rd _ rfl _ _ 43 rfl Try.underlying43 Try.info3 w.heap.size _ xs rfl ho1 _ _ _ _ [q] rfl hr1 hln1 hs1 ?_; intro A2 c2 w2 hown2 hg2; have hb3 := below_own hb2 ho1 (Nat.le_refl _) hg2; have hr3 := fun (A : Option Addr) => Rd.none' (w := w2) (B := w2.heap.size) A; have hs2 := hb3.size; have hln2 : (xs ++ [q]).length + 0 ≤ 17592186044416 := (by rw [List.length_append]; exact hln1); have hl2 : (xs ++ [q]).length = xs.length + 1 := (by rw [List.length_append]; rfl); rw [hl2] at hown2; clear hl2; clear ho1 hr1 hb2 hs1 hln1 hg2)
        | (at_builtin; refine wpList_append_rd _ rfl _ _ 43 rfl Try.underlying43 Try.info3 w.heap.size _ (xs ++ [q]) rfl hown2 _ _ _ _ [] rfl (hr3 _) hln2 hs2 ?_; intro A3 c3 w3 hown3 hg3; have hb4 := below_own hb3 hown2 (Nat.le_refl _) hg3; rw [List.append_nil] at hown3 ⊢; clear hown2 hr3 hln2 hs2 hg3)
        | fail)
      all_goals go_ret
      all_goals exact ⟨A3, c3, by rw [List.length_append]; rfl, hown3, hb4⟩

end Go.Proofs.Ytmknmjkcnlennaa
