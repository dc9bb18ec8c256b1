import Derived.Test.YtbgoiflkpefckaaMem
import Derived.Deep.QuietTactic
import Derived.BigQuiet
namespace Go.Proofs.Ytbgoiflkpefckaa
open Go.RowKit Go.Joins

theorem take_eq_step {xs ys : List Int} {k : Nat} (h : xs.take k = ys.take k) (hx : k < xs.length) (hy : k < ys.length) (e : xs[k]?.getD 0 = ys[k]?.getD 0) : xs.take (k + 1) = ys.take (k + 1) := by
  rw [List.take_succ_eq_append_getElem hx, List.take_succ_eq_append_getElem hy, h]
  simp only [List.getElem?_eq_getElem hx, List.getElem?_eq_getElem hy, Option.getD_some] at e
  rw [e]

set_option maxHeartbeats 400000 in
theorem eqIntS_any (A B : Option Addr) (n c m d : Nat) (xs ys : List Int) (w : World) (hn : n ≤ 9223372036854775807) (hm : m ≤ 9223372036854775807) (h : Rd w w.heap.size A n xs) (h' : Rd w w.heap.size B m ys) :
    Calls Try.prog 26 #[.slice A n c, .slice B m d] w fun e w' => e = .returned (.bool (decide (xs = ys))) ∧ Below w.heap.size w w' := by
  have hl : Hid (xs.length = n) := h.1
  have hl' : Hid (ys.length = m) := h'.1
  by_cases hnm : n = m
  · subst hnm
    have e0 : ((n : Int) != (n : Int)) = false := by simp
    go_enter Try.func26, Try.ntmps26
    go_wp2
    go_loopw [5] (fun i wr => ∃ k : Nat, k ≤ n ∧ i = .int .i64 k ∧ Hid (xs.take k = ys.take k) ∧ Below w.heap.size w wr) (fun i _ => n - (intOf i).toNat)
    case atStart => exact ⟨0, Nat.zero_le _, rfl, by simp [Hid], Below.refl _ _⟩
    case round =>
      obtain ⟨k, hk, rfl, htk, hb⟩ := hrel
      by_cases hlt : k < n
      · obtain ⟨b, o, rfl, hbs, hc⟩ := h.2 (by omega)
        obtain ⟨b', o', rfl, hbs', hc'⟩ := h'.2 (by omega)
        have hread : wr.cell? ⟨b, o + k, none⟩ = some (.int .i64 (xs[k]?.getD 0)) := (hb.cell (p := ⟨b, o + k, none⟩) hbs).trans (hc k hlt)
        have hread' : wr.cell? ⟨b', o' + k, none⟩ = some (.int .i64 (ys[k]?.getD 0)) := (hb.cell (p := ⟨b', o' + k, none⟩) hbs').trans (hc' k hlt)
        clear hc hc' h h'
        by_cases he : xs[k]?.getD 0 = ys[k]?.getD 0
        · have hst := take_eq_step htk.out (by rw [hl.out]; exact hlt) (by rw [hl'.out]; exact hlt) he
          have he1 : (xs[k]?.getD 0 != ys[k]?.getD 0) = false := by simpa using he
          have hst' : Hid (xs.take (k + 1) = ys.take (k + 1)) := hst
          clear hst he
          go_wp2
          go_quiet (fail)
          go_wp2
          go_roundw
          case rel => exact ⟨k + 1, by omega, by go_num, hst', below_of_draws hb _⟩
          case measure => simp [intOf]; omega
        · have he1 : (xs[k]?.getD 0 != ys[k]?.getD 0) = true := by simpa using he
          have hne : xs ≠ ys := by rintro rfl; exact he rfl
          clear he
          go_wp2
          go_quiet (fail)
          go_wp2
          go_ret
          exact ⟨by simp [hne], below_of_draws hb _⟩
      · have hfin : xs = ys := by
          have h1 := htk.out
          rw [List.take_of_length_le (by rw [hl.out]; omega), List.take_of_length_le (by rw [hl'.out]; omega)] at h1
          exact h1
        have hfin' : Hid (xs = ys) := hfin
        clear hfin
        go_wp2
        go_ret
        exact ⟨by simp [hfin'.out], hb⟩
  · have e0 : ((n : Int) != (m : Int)) = true := by rw [bne_iff_ne]; omega
    have hne : xs ≠ ys := by rintro rfl; exact hnm (hl.out.symm.trans hl'.out)
    go_enter Try.func26, Try.ntmps26
    go_wp2
    go_ret
    exact ⟨by simp [hne], Below.refl _ _⟩

theorem eqIntS_yes (A B : Option Addr) (n c m d : Nat) (xs : List Int) (w : World) (hn : n ≤ 9223372036854775807) (h : Rd w w.heap.size A n xs) (h' : Rd w w.heap.size B m xs) :
    Calls Try.prog 26 #[.slice A n c, .slice B m d] w fun e w' => e = .returned (.bool true) ∧ Below w.heap.size w w' :=
  (eqIntS_any A B n c m d xs xs w hn (by have h1 := h.1; have h2 := h'.1; omega) h h').mono fun _ _ ⟨he, hb⟩ => ⟨by rw [he]; simp, hb⟩
end Go.Proofs.Ytbgoiflkpefckaa
