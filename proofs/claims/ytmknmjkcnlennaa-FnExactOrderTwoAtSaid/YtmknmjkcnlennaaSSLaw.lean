/- What the laws ask of slices of slices: eqIntSS, markIntSS, heldIntSS. -/
import Derived.Test.YtmknmjkcnlennaaSS
import Derived.Test.YtmknmjkcnlennaaEq
import Derived.Test.YtmknmjkcnlennaaMark
namespace Go.Proofs.Ytmknmjkcnlennaa
open Go.RowKit Go.Joins

theorem drawn_on {w wm : World} {m n : Nat} (h : wm = w.drewN m) : ∃ k, wm.drewN n = w.drewN k := ⟨m + n, by rw [h, World.drewN_drewN]⟩
theorem below_drawn {B : Nat} {w w' : World} (h : ∃ m, w' = w.drewN m) : Below B w w' := by
  obtain ⟨m, rfl⟩ := h
  exact below_drewN (Below.refl _ _) m

set_option maxHeartbeats 400000 in
/-- eqIntS of two rows alike: only draws. -/
theorem eqIntS_quiet (A B : Option Addr) (n c d : Nat) (xs : List Int) (w : World) (hn : n ≤ 9223372036854775807) (h : Rd w w.heap.size A n xs) (h' : Rd w w.heap.size B n xs) :
    Calls Try.prog 31 #[.slice A n c, .slice B n d] w fun e w' => e = .returned (.bool true) ∧ ∃ m, w' = w.drewN m := by
  have e0 : ((n : Int) != (n : Int)) = false := by simp
  go_enter Try.func31, Try.ntmps31
  go_wp2
  go_loopw [5] (fun i wr => ∃ k : Nat, k ≤ n ∧ i = .int .i64 k ∧ Hid (∃ m, wr = w.drewN m)) (fun i _ => n - (intOf i).toNat)
  case atStart => exact ⟨0, Nat.zero_le _, rfl, 0, rfl⟩
  case round =>
    obtain ⟨k, hk, rfl, hwm⟩ := hrel
    by_cases hlt : k < n
    · obtain ⟨b, o, rfl, hbs, hc⟩ := h.2 (by omega)
      obtain ⟨b', o', rfl, hbs', hc'⟩ := h'.2 (by omega)
      have hread : wr.cell? ⟨b, o + k, none⟩ = some (.int .i64 (xs[k]?.getD 0)) := by obtain ⟨m, hm⟩ := hwm.out; rw [hm]; exact hc k hlt
      have hread' : wr.cell? ⟨b', o' + k, none⟩ = some (.int .i64 (xs[k]?.getD 0)) := by obtain ⟨m, hm⟩ := hwm.out; rw [hm]; exact hc' k hlt
      have he1 : (xs[k]?.getD 0 != xs[k]?.getD 0) = false := by simp
      clear hc hc' h h'
      go_wp2
      go_quiet (fail)
      go_wp2
      go_roundw
      case rel => exact ⟨k + 1, by omega, by go_num, by obtain ⟨m, hm⟩ := hwm.out; exact drawn_on hm⟩
      case measure => simp [intOf]; omega
    · go_wp2
      go_ret
      exact ⟨rfl, hwm.out⟩

theorem quiet_drawn {P : Program} {f : FuncId} {args : Array Value} {w : World} {n : Nat} {v : Value} (h : Calls P f args (w.drewN n) fun e w' => e = .returned v ∧ ∃ m, w' = (w.drewN n).drewN m) :
    Calls P f args (w.drewN n) fun e w'' => e = .returned v ∧ ∃ m, w'' = w.drewN m := Calls.quiet_of h

end Go.Proofs.Ytmknmjkcnlennaa
