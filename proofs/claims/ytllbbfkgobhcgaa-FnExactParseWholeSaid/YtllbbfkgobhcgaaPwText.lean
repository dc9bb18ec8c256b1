/- The model's text of a whole. -/
import Derived.Test.YtllbbfkgobhcgaaWtMath
import Derived.Test.YtllbbfkgobhcgaaPwGood
import Derived.Deep.LoopGhost
namespace Go.Proofs.Ytllbbfkgobhcgaa
open Go.RowKit Go.Joins

def GivesSB (w : World) (s : ByteArray) (ok : Bool) (e : Ending) (w' : World) : Prop := e = .returned (.tuple #[.string s, .bool ok]) ∧ Below w.heap.size w w'

set_option maxHeartbeats 1000000 in
theorem bgText_zero (neg : Bool) (A : Option Addr) (c : Nat) (w : World) :
    Calls Try.prog 12 #[.agg #[.bool neg, .slice A 0 c]] w fun e w' => e = .returned (.string ⟨#[48]⟩) ∧ Below w.heap.size w w' := by
  have h1 : Below w.heap.size w (w.alloc (.cells #[.bool neg, .slice A 0 c] 24)) := below_alloc1 _ _
  go_enter Try.func12, Try.ntmps12
  go_wp2_with fail
  go_ret
  exact ⟨rfl, h1⟩

set_option maxHeartbeats 4000000 in
set_option maxRecDepth 100000 in
theorem bgText_pos (neg : Bool) (A : Option Addr) (n c : Nat) (xs : List Int) (w : World) (hpos : 0 < n) (hn : n ≤ 400) (h : Rd w w.heap.size A n xs) (hr : Rng 0 9999 xs) :
    Calls Try.prog 12 #[.agg #[.bool neg, .slice A n c]] w fun e w' => e = .returned (.string (signB neg ++ tx xs (n - 1))) ∧ Below w.heap.size w w' := by
  have hl := h.1
  have hb0 : Below w.heap.size w (w.alloc (.cells #[.bool neg, .slice A n c] 24)) := below_alloc1 _ _
  have hx0 := Box.new w 24 #[.bool neg, .slice A n c]
  obtain ⟨b, o, rfl, hbs, hc⟩ := h.2 hpos
  have hread : (w.alloc (.cells #[.bool neg, .slice (some ⟨b, o, none⟩) n c] 24)).cell? ⟨b, o + (n - 1), none⟩ = some (.int .i64 (xs[n - 1]?.getD 0)) := (hb0.cell (p := ⟨b, o + (n - 1), none⟩) hbs).trans (hc (n - 1) (by omega))
  have hx9 := hr (n - 1) (by omega)
  obtain ⟨d, hd⟩ : ∃ d : Nat, xs[n - 1]?.getD 0 = (d : Int) := ⟨(xs[n - 1]?.getD 0).toNat, by omega⟩
  rw [hd] at hread hx9
  have c0 := fun W => l1Num_any d (by omega) W
  have hs0 : numB d = tx xs (n - 1 - (n - 1)) := by rw [Nat.sub_self, tx, hl, hd]; rfl
  replace c0 := Lib.hid c0
  replace hd := Lib.hid hd
  have e1 : ((n : Int) == 0) = false := by simp; omega
  obtain ⟨s0, hs0'⟩ : ∃ s0, s0 = numB d := ⟨_, rfl⟩
  rw [← hs0'] at c0 hs0
  replace hs0 := Lib.hid hs0
  replace hs0' := Lib.hid hs0'
  replace hl := Lib.hid hl
  have hfin : ∀ (s : ByteArray), s = tx xs (n - 1 - 0) → (⟨#[45]⟩ : ByteArray).size + s.size ≤ 9223372036854775807 := fun s hs => by
    have q := tx_size xs (fun k hk => hr k hk) (n - 1 - 0) (by rw [hl.out]; omega)
    rw [hs]; show 1 + _ ≤ _; omega
  replace hfin := Lib.hid hfin
  have hc' := Lib.hid hc
  have hr' := Lib.hid hr
  have hcell := hx0.two
  obtain ⟨k0, k1⟩ := hcell
  clear hc hr h
  go_enter Try.func12, Try.ntmps12
  go_wp2_with fail
  refine (c0.out _).mono ?_
  rintro e w1 ⟨rfl, hb⟩
  have hb1 := Below.step hb0 hb
  replace hx0 := hx0.kept hb
  obtain ⟨gx, egx⟩ : ∃ g, g = w.heap.size := ⟨_, rfl⟩
  rw [← egx] at hx0 ⊢
  replace egx := Lib.hid egx
  clear hb hb0 hread k0 k1
  obtain ⟨k0, k1⟩ := hx0.two
  go_wp2_with fail
  go_loopg [4, 5] (n - 1) (fun g s i wr => ∃ (j : Nat) (z : Int) (S : ByteArray), j ≤ n - 1 ∧ g = 0 + j ∧ z = (j : Int) - 1 ∧ s = .string S ∧ i = .int .i64 z ∧ Hid (S = tx xs (n - 1 - j)) ∧ Box wr gx 24 #[.bool neg, .slice (some ⟨b, o, none⟩) n c] ∧ Below w.heap.size w wr)
  case atStart => exact ⟨n - 1, (n : Int) - 2, s0, Nat.le_refl _, by omega, by omega, rfl, by go_num, hs0, hx0, hb1⟩
  case round =>
    clear hx0 hb1 k0 k1
    obtain ⟨j, z, S, hj, rfl, hz, rfl, rfl, hS, hx0, hb1⟩ := hrel
    obtain ⟨k0, k1⟩ := hx0.two
    rcases j with _ | j
    · obtain rfl : z = -1 := by simpa using hz
      clear hz
      have hadd := fun (W : World) => run_string_add_sum (P := Try.prog) W ⟨#[45]⟩ S (hfin.out S hS.out)
      have hfS : S = tx xs (n - 1) := hS.out
      replace hfS := Lib.hid hfS
      cases neg
      · go_wp2_with fail
        go_ret
        exact ⟨by rw [← hfS.out]; show _ = Ending.returned (Value.string ((⟨#[]⟩ : ByteArray) ++ S)); rw [empty_app]; rfl, hb1⟩
      · go_wp2_with fail
        go_ret
        exact ⟨by rw [← hfS.out]; rfl, hb1⟩
    · obtain rfl : z = (j : Int) := by omega
      clear hz
      have hread : wr.cell? ⟨b, o + j, none⟩ = some (.int .i64 (xs[j]?.getD 0)) := (hb1.cell (p := ⟨b, o + j, none⟩) hbs).trans (hc'.out j (by omega))
      have hx9 := hr'.out j (by rw [hl.out]; omega)
      obtain ⟨d, hd⟩ : ∃ d : Nat, xs[j]?.getD 0 = (d : Int) := ⟨(xs[j]?.getD 0).toNat, by omega⟩
      rw [hd] at hread hx9
      have cN := fun W => l1Num_any d (by omega) W
      have hd4 := numB_four d (by omega)
      have htx : tx xs (n - 1 - j) = S ++ pad4 d := by
        rw [hS.out, show n - 1 - j = (n - 1 - (j + 1)) + 1 from by omega, tx, hl.out, show n - 2 - (n - 1 - (j + 1)) = j from by omega, hd]; rfl
      have hsz : S.size + 4 ≤ 10000 := by
        have q := tx_size xs (fun k hk => hr'.out k hk) (n - 1 - (j + 1)) (by rw [hl.out]; omega)
        rw [← hS.out] at q; omega
      obtain ⟨D, hD⟩ : ∃ D, D = numB d := ⟨_, rfl⟩
      rw [← hD] at cN hd4
      replace cN := Lib.hid cN
      replace hd := Lib.hid hd
      replace htx := Lib.hid htx
      replace hD := Lib.hid hD
      have hj1 : j < n := by omega
      go_wp2_with fail
      refine (cN.out _).mono ?_
      rintro e w2 ⟨rfl, hb⟩
      have hb2 := Below.step hb1 hb
      have hx2 := hx0.kept hb
      clear hb hb1 hx0 hread k0 k1
      have hst : Hid (D = zeros 0 ++ D) := (zeros_zero D).symm
      go_wp2_with fail
      go_loopg [6] (4 - D.size) (fun g t wr => ∃ (r : Nat) (T : ByteArray), r + D.size ≤ 4 ∧ g = 4 - D.size - r ∧ t = .string T ∧ T.size = r + D.size ∧ Hid (T = zeros r ++ D) ∧ wr = w2)
      case atStart => exact ⟨0, D, by omega, rfl, rfl, by omega, hst, rfl⟩
      case round =>
        obtain ⟨r, T, hr1, rfl, rfl, hT, hTe, rfl⟩ := hrel
        by_cases hlt : r + D.size < 4
        · have hadd := fun (W : World) => run_string_add_sum (P := Try.prog) W ⟨#[48]⟩ T (by show 1 + _ ≤ _; omega)
          obtain ⟨T2, hT2⟩ : ∃ T2, T2 = (⟨#[48]⟩ : ByteArray) ++ T := ⟨_, rfl⟩
          rw [← hT2] at hadd
          have hsz2 : T2.size = (r + 1) + D.size := by rw [hT2, ByteArray.size_append, hT]; show 1 + _ = _; omega
          have hTe2 : Hid (T2 = zeros (r + 1) ++ D) := by show T2 = _; rw [hT2, hTe.out, zeros_more]
          replace hT2 := Lib.hid hT2
          go_wp2_with fail
          go_roundg (4 - D.size - (r + 1))
          case measure => omega
          case rel => exact ⟨r + 1, T2, by omega, rfl, rfl, hsz2, hTe2, rfl⟩
        · have hr4 : r = 4 - D.size := by omega
          have hadd := fun (W : World) => run_string_add_sum (P := Try.prog) W S T (by omega)
          have hST : S ++ T = tx xs (n - 1 - j) := by rw [htx.out, hTe.out]; unfold pad4; rw [← hD.out, hr4]
          obtain ⟨S2, hS2⟩ : ∃ S2, S2 = S ++ T := ⟨_, rfl⟩
          rw [← hS2] at hadd hST
          replace hS2 := Lib.hid hS2
          replace hST := Lib.hid hST
          have q1 : IntKind.i64.wrap ((j : Int) - 1) = (j : Int) - 1 := IntWalk.i64_in _ (by omega)
          go_wp2_with fail
          go_roundg (0 + j)
          case measure => omega
          case rel => exact ⟨j, (j : Int) - 1, S2, by omega, rfl, rfl, rfl, by go_num, hST, hx2, hb2⟩

theorem bgText_any (neg : Bool) (A : Option Addr) (n c : Nat) (xs : List Int) (w : World) (h : Rd w w.heap.size A n xs) (hg : Good neg xs) :
    Calls Try.prog 12 #[.agg #[.bool neg, .slice A n c]] w fun e w' => e = .returned (.string (txW neg xs)) ∧ Below w.heap.size w w' := by
  have hl := h.1
  obtain ⟨g1, g2, g3, g4⟩ := hg
  unfold txW
  by_cases hn : n = 0
  · subst hn
    rw [if_pos hl]
    exact bgText_zero neg A c w
  · rw [if_neg (by omega), hl]
    exact bgText_pos neg A n c xs w (by omega) (by omega) h g2
end Go.Proofs.Ytllbbfkgobhcgaa
