/- The law of IsWhole: for every input it answers true. Condition: the argument's limbs are ints. -/
import Derived.Test.YtlkdelhmjjnnnaaIsWhole
import Derived.Test.YtlkdelhmjjnnnaaWhole
import Derived.Deep.RegionHeld3
namespace Go.Proofs.Ytlkdelhmjjnnnaa
open Go.RowKit Go.Joins

set_option maxHeartbeats 1000000 in
theorem lawIsWhole_core (neg : Bool) (A : Option Addr) (n c : Nat) (xs : List Int) (w : World) (hm : n ≤ 9223372036854775807) (h : Rd w w.heap.size A n xs) (r : Bool)
    (hS : ∀ (A : Option Addr) (c : Nat) (w : World), xs.length ≤ 1048576 → Rd w w.heap.size A xs.length xs → Calls Try.prog 15 #[.agg #[.bool neg, .slice A xs.length c]] w fun e w' => e = .returned (.bool r) ∧ Below w.heap.size w w')
    (hI : ∀ (A : Option Addr) (c : Nat) (w : World), xs.length ≤ 1048576 → Rd w w.heap.size A xs.length xs → Calls Try.prog 17 #[.agg #[.bool neg, .slice A xs.length c]] w fun e w' => e = .returned (.bool r) ∧ Below w.heap.size w w') :
    Calls Try.prog 3 #[.agg #[.bool neg, .slice A n c]] w fun e w' => e = .returned (.bool true) ∧ Below w.heap.size w w' := by
  have h1 : Below w.heap.size w (w.alloc (.cells #[.bool neg, .slice A n c] 24)) := below_alloc1 _ _
  have hr1 := (h.kept h1)
  have hx1 := Box.new w 24 #[.bool neg, .slice A n c]
  have hsz := szWhole_any neg A n c 1048576 (w.alloc (.cells #[.bool neg, .slice A n c] 24)) hm (by omega) (by omega)
  by_cases hbig : 1048576 < n
  · rw [if_pos (by omega)] at hsz
    have hsz' := Lib.hid hsz
    clear hsz hr1 h hS hI
    go_enter Try.func3, Try.ntmps3
    go_wp2_with (go_at_call 14; refine (hsz'.out).mono ?_; rintro e w' ⟨rfl, hb⟩)
    go_ret
    exact ⟨rfl, Below.step h1 hb⟩
  · rw [if_neg (by omega)] at hsz
    have hlen : xs.length ≤ 1048576 := by rw [h.1]; omega
    have hsz' := Lib.hid hsz
    have hS' := Lib.hid hS
    have hI' := Lib.hid hI
    clear hsz h hS hI
    go_enter Try.func3, Try.ntmps3
    go_wp2_with fail
    refine (hsz'.out).mono ?_
    rintro e w1 ⟨rfl, hb⟩
    have h2 := Below.step h1 hb
    have hr2 := hr1.kept hb
    have hx2 := hx1.kept hb
    obtain ⟨k20, k21⟩ := hx2.two
    clear hb h1 hr1 hx1
    go_wp2_with fail
    refine (toWhole_any neg A n c xs _ (by omega) hr2).mono ?_
    rintro e w2 ⟨A2, c2, rfl, ho2, hb⟩
    have h3 := Below.step h2 hb
    have hr3 := hr2.kept hb
    have hx3 := hx2.kept hb
    clear k20 k21
    obtain ⟨k30, k31⟩ := hx3.two
    clear hb h2 hr2 hx2
    go_wp2_with fail
    refine (hS'.out A2 c2 _ hlen ho2.rd).mono ?_
    rintro e w3 ⟨rfl, hb⟩
    have h4 := Below.step h3 hb
    have hr4 := hr3.kept hb
    have hx4 := hx3.kept hb
    clear k30 k31
    obtain ⟨k40, k41⟩ := hx4.two
    clear hb h3 hr3 hx3 ho2
    go_wp2_with fail
    refine (toWhole_any neg A n c xs _ (by omega) hr4).mono ?_
    rintro e w4 ⟨A4, c4, rfl, ho4, hb⟩
    have h5 := Below.step h4 hb
    have hr5 := hr4.kept hb
    have hx5 := hx4.kept hb
    clear k40 k41
    obtain ⟨k50, k51⟩ := hx5.two
    clear hb h4 hr4 hx4
    go_wp2_with fail
    have h6 := Below.step h5 (below_alloc1 w4 (.cells #[.bool neg, .slice A4 xs.length c4] 27))
    have hr6 := hr5.kept (below_alloc1 w4 (.cells #[.bool neg, .slice A4 xs.length c4] 27))
    have hx6 := hx5.kept (below_alloc1 w4 (.cells #[.bool neg, .slice A4 xs.length c4] 27))
    have ho6 := ho4.kept (below_alloc1 w4 (.cells #[.bool neg, .slice A4 xs.length c4] 27))
    have hy6 := Box.new w4 27 #[.bool neg, .slice A4 xs.length c4]
    obtain ⟨gx, hgx⟩ : ∃ g, g = w4.heap.size := ⟨_, rfl⟩
    rw [← hgx] at hy6 ⊢
    clear hgx h5 hr5 hx5 ho4 k50 k51
    refine (hI'.out A4 c4 _ hlen ho6.rd).mono ?_
    rintro e w7 ⟨rfl, hb⟩
    have h7 := Below.step h6 hb
    have hr7 := hr6.kept hb
    have hx7 := hx6.kept hb
    have ho7 := ho6.kept hb
    have hy7 := hy6.kept hb
    obtain ⟨k70, k71⟩ := hx7.two
    obtain ⟨m70, m71⟩ := hy7.two
    clear hb h6 hr6 hx6 ho6 hy6
    have e0 : (r != r) = false := by simp
    go_wp2_with fail
    go_region_held3 (fun w' => w'.cell? ⟨gx, 0, none⟩ = some (.bool neg) ∧ w'.cell? ⟨gx, 1, none⟩ = some (.slice A4 xs.length c4) ∧ w'.cell? ⟨w.heap.size, 0, none⟩ = some (.bool neg) ∧ w'.cell? ⟨w.heap.size, 1, none⟩ = some (.slice A n c)) ((refine ⟨?_, ?_, ?_, ?_⟩ <;> assumption))
      (first
        | (go_at_call 16; refine (toWhole_any neg A n c xs _ (by omega) (by exact hr7)).mono ?_; rintro e w' ⟨A8, c8, rfl, ho8, hb⟩; have hq : Below w7.heap.size w7 w' := ⟨hb.os, hb.tape, hb.output, hb.size, hb.block⟩; obtain ⟨q1, q2⟩ := (hy7.kept hq).two; obtain ⟨q3, q4⟩ := (hx7.kept hq).two)
        | (go_at_call 18; refine (eqWhole_yes neg A4 _ _ c4 _ _ xs _ (by omega) (by exact (ho7.kept hq).rd) (by exact ho8.rd)).mono ?_; rintro e w' ⟨rfl, hb9⟩; have hq9 := Below.step hq ⟨hb9.os, hb9.tape, hb9.output, hb9.size, hb9.block⟩; obtain ⟨q5, q6⟩ := (hy7.kept hq9).two; obtain ⟨q7, q8⟩ := (hx7.kept hq9).two))
    go_wp2
    go_ret
    exact ⟨rfl, Below.step h7 hq9⟩

theorem lawIsWhole_any (neg : Bool) (A : Option Addr) (n c : Nat) (xs : List Int) (w : World) (hm : n ≤ 9223372036854775807) (h : Rd w w.heap.size A n xs) :
    Calls Try.prog 3 #[.agg #[.bool neg, .slice A n c]] w fun e w' => e = .returned (.bool true) ∧ Below w.heap.size w w' := by
  by_cases hg : Good neg xs
  · exact lawIsWhole_core neg A n c xs w hm h true (fun A c w _ hr => isWholeS_yes neg A _ c xs w hr hg) (fun A c w _ hr => isWholeI_yes neg A _ c xs w hr hg)
  · exact lawIsWhole_core neg A n c xs w hm h false (fun A c w hl hr => isWholeS_no neg A _ c xs w (by omega) hr hg) (fun A c w hl hr => isWholeI_no neg A _ c xs w (by omega) hr hg)
end Go.Proofs.Ytlkdelhmjjnnnaa
