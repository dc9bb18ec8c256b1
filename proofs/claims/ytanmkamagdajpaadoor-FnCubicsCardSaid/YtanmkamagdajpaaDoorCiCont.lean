/- ContentOf, the model's and the program's (written by wip/gen/cicont.py). -/
import Derived.Test.YtanmkamagdajpaaDoorCiAbs
import Derived.IntWalk
import Derived.BigRegion
import Derived.Deep.QuietTactic
import Derived.BigQuiet
namespace Go.Proofs.YtanmkamagdajpaaDoor
open Go.RowKit Go.Joins

def GivesICB (w : World) (n a b c d : Int) (ok : Bool) (e : Ending) (w' : World) : Prop := e = .returned (.tuple #[.int .i64 n, .agg #[.int .i64 a, .int .i64 b, .int .i64 c, .int .i64 d], .bool ok]) ∧ Below w.heap.size w w'

set_option maxHeartbeats 4000000 in
theorem contS_yes (a b c d : Int) (w : World) (g : CuG a b c d) (A B C D : Int) (G : Nat) (hG : gc4 a b c d = G) (hA : a.tdiv (G : Int) = A) (hB : b.tdiv (G : Int) = B) (hC : c.tdiv (G : Int) = C) (hD : d.tdiv (G : Int) = D) : Calls Tryd.prog 9 #[.agg #[.int .i64 a, .int .i64 b, .int .i64 c, .int .i64 d]] w (GivesICB w G A B C D true) := by
  obtain ⟨ha, ⟨a1, a2⟩, ⟨b1, b2⟩, ⟨c1, c2⟩, ⟨d1, d2⟩⟩ := id g
  have hG0 := gc4_pos (b := b) (c := c) (d := d) ha
  have hGl := gc4_le (b := b) (c := c) (d := d) ha
  rw [hG] at hG0 hGl
  replace hA := Lib.hid hA
  replace hB := Lib.hid hB
  replace hC := Lib.hid hC
  replace hD := Lib.hid hD
  have q1 := fun W => bgCommon_any a.natAbs b.natAbs W (by omega) (by omega)
  have q2 := fun W => bgCommon_any c.natAbs d.natAbs W (by omega) (by omega)
  have l1 : Nat.gcd a.natAbs b.natAbs ≤ 1000 := Nat.le_trans (Nat.le_of_dvd (by omega) (Nat.gcd_dvd_left _ _)) (show a.natAbs ≤ 1000 by omega)
  have l2 : Nat.gcd c.natAbs d.natAbs ≤ 1000 := by
    by_cases hc : c = 0
    · subst hc; simp; omega
    · exact Nat.le_trans (Nat.le_of_dvd (by omega) (Nat.gcd_dvd_left _ _)) (show c.natAbs ≤ 1000 by omega)
  have q3 := fun W => bgCommon_any (Nat.gcd a.natAbs b.natAbs) (Nat.gcd c.natAbs d.natAbs) W (by omega) (by omega)
  have e0 : Nat.gcd (Nat.gcd a.natAbs b.natAbs) (Nat.gcd c.natAbs d.natAbs) = G := hG
  rw [e0] at q3
  obtain ⟨G1, hG1⟩ : ∃ G1, G1 = Nat.gcd a.natAbs b.natAbs := ⟨_, rfl⟩
  obtain ⟨G2, hG2⟩ : ∃ G2, G2 = Nat.gcd c.natAbs d.natAbs := ⟨_, rfl⟩
  rw [← hG1] at q1 q3
  rw [← hG2] at q2 q3
  clear e0 hG hG1 hG2 l1 l2
  replace q1 := Lib.hid q1
  replace q2 := Lib.hid q2
  replace q3 := Lib.hid q3
  have e1 : ((G : Int) == 0) = false := beq_eq_false_iff_ne.2 (by omega)
  have e2 : (G : Int) ≠ 0 := by omega
  have h := below_alloc1 w (.cells #[.int .i64 a, .int .i64 b, .int .i64 c, .int .i64 d] 24)
  have hx0 := Box.new w 24 #[.int .i64 a, .int .i64 b, .int .i64 c, .int .i64 d]
  have hA := below_alloc1 (w.alloc (.cells #[.int .i64 a, .int .i64 b, .int .i64 c, .int .i64 d] 24)) (.cells #[.int .i64 0, .int .i64 0, .int .i64 0, .int .i64 0] 24)
  have hxr := Box.new (w.alloc (.cells #[.int .i64 a, .int .i64 b, .int .i64 c, .int .i64 d] 24)) 24 #[.int .i64 0, .int .i64 0, .int .i64 0, .int .i64 0]
  rw [show (w.alloc (.cells #[.int .i64 a, .int .i64 b, .int .i64 c, .int .i64 d] 24)).heap.size = w.heap.size + 1 from by simp] at hxr
  replace h := Below.step h hA
  replace hx0 := hx0.kept hA
  clear hA
  obtain ⟨k0, k1, k2, k3⟩ := hx0.four
  go_enter Tryd.func9, Tryd.ntmps9
  go_wp2_with fail
  refine (cuGood_yes a b c d _ g).mono ?_
  rintro e w1 ⟨rfl, hb⟩
  replace h := Below.step h hb
  replace hx0 := hx0.kept hb
  replace hxr := hxr.kept hb
  clear hb k0 k1 k2 k3
  obtain ⟨k0, k1, k2, k3⟩ := hx0.four
  clear g ha
  go_wp2_with fail
  go_quiet ((first | (go_at_call 33; exact quiet_left (l1Abs_any _ _ (by omega) (by omega))) | (go_at_call 32; with_reducible exact quiet_left (q1.out _)) | (go_at_call 32; with_reducible exact quiet_left (q2.out _)) | (go_at_call 32; with_reducible exact quiet_left (q3.out _))))
  replace h := Below.drewN' h nq
  replace hx0 : Box (w1.drewN nq) w.heap.size 24 #[.int .i64 a, .int .i64 b, .int .i64 c, .int .i64 d] := hx0
  replace hxr : Box (w1.drewN nq) (w.heap.size + 1) 24 #[.int .i64 0, .int .i64 0, .int .i64 0, .int .i64 0] := hxr
  obtain ⟨w2, hw2⟩ : ∃ w2, w2 = w1.drewN nq := ⟨_, rfl⟩
  rw [← hw2] at h hx0 hxr ⊢
  clear hw2 k0 k1 k2 k3
  obtain ⟨k0, k1, k2, k3⟩ := hx0.four
  go_wp2_with fail
  obtain ⟨r0, r1, r2, r3⟩ := hxr.four
  have f0 := hxr.free 0
  have f1 := hxr.free 1
  have f2 := hxr.free 2
  have f3 := hxr.free 3
  have lr := hxr.lt
  obtain ⟨s0, s1, s2, s3⟩ := ((((hxr.set 0 (.int .i64 A)).set 1 (.int .i64 B)).set 2 (.int .i64 C)).set 3 (.int .i64 D)).four
  go_region
  go_wp2_with fail
  rw [hA.out, hB.out, hC.out, hD.out]
  refine bodyPost_ret (v := .tuple #[.int .i64 (G : Int), .agg #[.int .i64 A, .int .i64 B, .int .i64 C, .int .i64 D], .bool true]) (by simp [results, Tryd.results9, go_sem, s0, s1, s2, s3]) (by rfl) ⟨by rfl, ?_⟩
  exact below_drew (below_sets4 h (Nat.le_succ _) _ _ _ _)

set_option maxHeartbeats 1000000 in
theorem contS_bad (a b c d : Int) (w : World) (g : ¬ CuG a b c d) : Calls Tryd.prog 9 #[.agg #[.int .i64 a, .int .i64 b, .int .i64 c, .int .i64 d]] w (GivesICB w 0 0 0 0 0 false) := by
  have h := below_alloc1 w (.cells #[.int .i64 a, .int .i64 b, .int .i64 c, .int .i64 d] 24)
  have hx0 := Box.new w 24 #[.int .i64 a, .int .i64 b, .int .i64 c, .int .i64 d]
  have hA := below_alloc1 (w.alloc (.cells #[.int .i64 a, .int .i64 b, .int .i64 c, .int .i64 d] 24)) (.cells #[.int .i64 0, .int .i64 0, .int .i64 0, .int .i64 0] 24)
  have hxr := Box.new (w.alloc (.cells #[.int .i64 a, .int .i64 b, .int .i64 c, .int .i64 d] 24)) 24 #[.int .i64 0, .int .i64 0, .int .i64 0, .int .i64 0]
  rw [show (w.alloc (.cells #[.int .i64 a, .int .i64 b, .int .i64 c, .int .i64 d] 24)).heap.size = w.heap.size + 1 from by simp] at hxr
  replace h := Below.step h hA
  replace hx0 := hx0.kept hA
  clear hA
  obtain ⟨k0, k1, k2, k3⟩ := hx0.four
  go_enter Tryd.func9, Tryd.ntmps9
  go_wp2_with fail
  refine (cuGood_no a b c d _ g).mono ?_
  rintro e w1 ⟨rfl, hb⟩
  replace h := Below.step h hb
  replace hx0 := hx0.kept hb
  replace hxr := hxr.kept hb
  clear hb k0 k1 k2 k3
  obtain ⟨k0, k1, k2, k3⟩ := hx0.four
  obtain ⟨r0, r1, r2, r3⟩ := hxr.four
  have f0 := hxr.free 0
  have f1 := hxr.free 1
  have f2 := hxr.free 2
  have f3 := hxr.free 3
  have lr := hxr.lt
  obtain ⟨s0, s1, s2, s3⟩ := ((((hxr.set 0 (.int .i64 0)).set 1 (.int .i64 0)).set 2 (.int .i64 0)).set 3 (.int .i64 0)).four
  go_wp2_with fail
  refine bodyPost_ret (v := .tuple #[.int .i64 0, .agg #[.int .i64 0, .int .i64 0, .int .i64 0, .int .i64 0], .bool false]) (by simp [results, Tryd.results9, go_sem, s0, s1, s2, s3]) (by rfl) ⟨by rfl, ?_⟩
  exact below_sets4 h (Nat.le_succ _) _ _ _ _

/-- The common divisor behind k rounds. -/
def gk (n0 n1 n2 n3 k : Nat) : Nat := if k = 0 then n0 else if k = 1 then n1 else if k = 2 then n2 else n3
set_option maxHeartbeats 4000000 in
theorem contI_yes (a b c d : Int) (w : World) (g : CuG a b c d) (A B C D : Int) (G : Nat) (hG : gc4 a b c d = G) (hA : a.tdiv (G : Int) = A) (hB : b.tdiv (G : Int) = B) (hC : c.tdiv (G : Int) = C) (hD : d.tdiv (G : Int) = D) : Calls Tryd.prog 8 #[.agg #[.int .i64 a, .int .i64 b, .int .i64 c, .int .i64 d]] w (GivesICB w G A B C D true) := by
  obtain ⟨ha, ⟨a1, a2⟩, ⟨b1, b2⟩, ⟨c1, c2⟩, ⟨d1, d2⟩⟩ := id g
  have hG0 := gc4_pos (b := b) (c := c) (d := d) ha
  have hGl := gc4_le (b := b) (c := c) (d := d) ha
  rw [hG] at hG0 hGl
  replace hA := Lib.hid hA
  replace hB := Lib.hid hB
  replace hC := Lib.hid hC
  replace hD := Lib.hid hD
  have l1 : Nat.gcd a.natAbs b.natAbs ≤ 1000 := Nat.le_trans (Nat.le_of_dvd (by omega) (Nat.gcd_dvd_left _ _)) (show a.natAbs ≤ 1000 by omega)
  have l2 : Nat.gcd (Nat.gcd a.natAbs b.natAbs) c.natAbs ≤ 1000 := Nat.le_trans (Nat.le_of_dvd (Nat.gcd_pos_of_pos_left _ (by omega)) (Nat.gcd_dvd_left _ _)) l1
  have q1 := fun W => commonDivisor_any a.natAbs b.natAbs W (by omega) (by omega)
  have q2 := fun W => commonDivisor_any (Nat.gcd a.natAbs b.natAbs) c.natAbs W (by omega) (by omega)
  have q3 := fun W => commonDivisor_any (Nat.gcd (Nat.gcd a.natAbs b.natAbs) c.natAbs) d.natAbs W (by omega) (by omega)
  rw [gc4_left, hG] at q3
  obtain ⟨G2, hG2⟩ : ∃ G2, G2 = Nat.gcd (Nat.gcd a.natAbs b.natAbs) c.natAbs := ⟨_, rfl⟩
  rw [← hG2] at q2 q3
  obtain ⟨G1, hG1⟩ : ∃ G1, G1 = Nat.gcd a.natAbs b.natAbs := ⟨_, rfl⟩
  rw [← hG1] at q1 q2
  clear hG hG1 hG2 l1 l2
  replace q1 := Lib.hid q1
  replace q2 := Lib.hid q2
  replace q3 := Lib.hid q3
  have e1 : ((G : Int) == 0) = false := beq_eq_false_iff_ne.2 (by omega)
  have e2 : (G : Int) ≠ 0 := by omega
  have h := below_alloc1 w (.cells #[.int .i64 a, .int .i64 b, .int .i64 c, .int .i64 d] 24)
  have hx0 := Box.new w 24 #[.int .i64 a, .int .i64 b, .int .i64 c, .int .i64 d]
  have hA := below_alloc1 (w.alloc (.cells #[.int .i64 a, .int .i64 b, .int .i64 c, .int .i64 d] 24)) (.cells #[.int .i64 0, .int .i64 0, .int .i64 0, .int .i64 0] 24)
  have hxr := Box.new (w.alloc (.cells #[.int .i64 a, .int .i64 b, .int .i64 c, .int .i64 d] 24)) 24 #[.int .i64 0, .int .i64 0, .int .i64 0, .int .i64 0]
  rw [show (w.alloc (.cells #[.int .i64 a, .int .i64 b, .int .i64 c, .int .i64 d] 24)).heap.size = w.heap.size + 1 from by simp] at hxr
  replace h := Below.step h hA
  replace hx0 := hx0.kept hA
  clear hA
  obtain ⟨k0, k1, k2, k3⟩ := hx0.four
  go_enter Tryd.func8, Tryd.ntmps8
  go_wp2_with fail
  refine (isCubicI_yes a b c d _ g).mono ?_
  rintro e w1 ⟨rfl, hb⟩
  replace h := Below.step h hb
  replace hx0 := hx0.kept hb
  replace hxr := hxr.kept hb
  clear hb k0 k1 k2 k3
  obtain ⟨k0, k1, k2, k3⟩ := hx0.four
  clear g ha
  go_wp2_with fail
  have ix0 : ∀ w : World, (Instr.index 60 (.agg #[.int .i64 b, .int .i64 c, .int .i64 d]) (.int .i64 0)).run Tryd.prog w = .ok (.int .i64 b) w := fun _ => by kernel_rfl
  have ix1 : ∀ w : World, (Instr.index 60 (.agg #[.int .i64 b, .int .i64 c, .int .i64 d]) (.int .i64 1)).run Tryd.prog w = .ok (.int .i64 c) w := fun _ => by kernel_rfl
  have ix2 : ∀ w : World, (Instr.index 60 (.agg #[.int .i64 b, .int .i64 c, .int .i64 d]) (.int .i64 2)).run Tryd.prog w = .ok (.int .i64 d) w := fun _ => by kernel_rfl
  go_loopw [5, 25] (fun n i wr => ∃ (k : Nat) (x : Nat), k ≤ 3 ∧ i = .int .i64 (k : Int) ∧ n = .int .i64 (x : Int) ∧ Hid (x = gk a.natAbs G1 G2 G k) ∧ Below w1.heap.size w1 wr) (fun _ i _ => 3 - (intOf i).toNat)
  case atStart => exact ⟨0, a.natAbs, by omega, rfl, rfl, rfl, Below.refl _ _⟩
  case round =>
    obtain ⟨k, x, hk, rfl, rfl, hx, hbl⟩ := hrel
    clear k0 k1 k2 k3
    obtain rfl | rfl | rfl | rfl : k = 0 ∨ k = 1 ∨ k = 2 ∨ k = 3 := by omega
    · obtain rfl : x = a.natAbs := hx.out
      go_wp2_with fail
      refine (q1.out _).mono ?_
      rintro e w2 ⟨rfl, hb2⟩
      go_wp2_with fail
      go_roundw
      case rel => exact ⟨1, G1, by omega, rfl, rfl, rfl, Below.step hbl hb2⟩
      case measure => simp [intOf]
    · obtain rfl : x = G1 := hx.out
      go_wp2_with fail
      refine (q2.out _).mono ?_
      rintro e w2 ⟨rfl, hb2⟩
      go_wp2_with fail
      go_roundw
      case rel => exact ⟨2, G2, by omega, rfl, rfl, rfl, Below.step hbl hb2⟩
      case measure => simp [intOf]
    · obtain rfl : x = G2 := hx.out
      go_wp2_with fail
      refine (q3.out _).mono ?_
      rintro e w2 ⟨rfl, hb2⟩
      go_wp2_with fail
      go_roundw
      case rel => exact ⟨3, G, by omega, rfl, rfl, rfl, Below.step hbl hb2⟩
      case measure => simp [intOf]
    · obtain rfl : G = x := Eq.symm hx.out
      replace h := Below.step h hbl
      replace hx0 := hx0.kept hbl
      replace hxr := hxr.kept hbl
      obtain ⟨k0, k1, k2, k3⟩ := hx0.four
      clear hbl hx q1 q2 q3
      go_wp2_with fail
      obtain ⟨r0, r1, r2, r3⟩ := hxr.four
      have f0 := hxr.free 0
      have f1 := hxr.free 1
      have f2 := hxr.free 2
      have f3 := hxr.free 3
      have lr := hxr.lt
      obtain ⟨s0, s1, s2, s3⟩ := ((((hxr.set 0 (.int .i64 A)).set 1 (.int .i64 B)).set 2 (.int .i64 C)).set 3 (.int .i64 D)).four
      go_region
      go_wp2_with fail
      rw [hA.out, hB.out, hC.out, hD.out]
      refine bodyPost_ret (v := .tuple #[.int .i64 (G : Int), .agg #[.int .i64 A, .int .i64 B, .int .i64 C, .int .i64 D], .bool true]) (by simp [results, Tryd.results8, go_sem, s0, s1, s2, s3]) (by rfl) ⟨by rfl, ?_⟩
      exact below_drew (below_sets4 h (Nat.le_succ _) _ _ _ _)

set_option maxHeartbeats 1000000 in
theorem contI_bad (a b c d : Int) (w : World) (g : ¬ CuG a b c d) : Calls Tryd.prog 8 #[.agg #[.int .i64 a, .int .i64 b, .int .i64 c, .int .i64 d]] w (GivesICB w 0 0 0 0 0 false) := by
  have h := below_alloc1 w (.cells #[.int .i64 a, .int .i64 b, .int .i64 c, .int .i64 d] 24)
  have hx0 := Box.new w 24 #[.int .i64 a, .int .i64 b, .int .i64 c, .int .i64 d]
  have hA := below_alloc1 (w.alloc (.cells #[.int .i64 a, .int .i64 b, .int .i64 c, .int .i64 d] 24)) (.cells #[.int .i64 0, .int .i64 0, .int .i64 0, .int .i64 0] 24)
  have hxr := Box.new (w.alloc (.cells #[.int .i64 a, .int .i64 b, .int .i64 c, .int .i64 d] 24)) 24 #[.int .i64 0, .int .i64 0, .int .i64 0, .int .i64 0]
  rw [show (w.alloc (.cells #[.int .i64 a, .int .i64 b, .int .i64 c, .int .i64 d] 24)).heap.size = w.heap.size + 1 from by simp] at hxr
  replace h := Below.step h hA
  replace hx0 := hx0.kept hA
  clear hA
  obtain ⟨k0, k1, k2, k3⟩ := hx0.four
  go_enter Tryd.func8, Tryd.ntmps8
  go_wp2_with fail
  refine (isCubicI_no a b c d _ g).mono ?_
  rintro e w1 ⟨rfl, hb⟩
  replace h := Below.step h hb
  replace hx0 := hx0.kept hb
  replace hxr := hxr.kept hb
  clear hb k0 k1 k2 k3
  obtain ⟨k0, k1, k2, k3⟩ := hx0.four
  obtain ⟨r0, r1, r2, r3⟩ := hxr.four
  have f0 := hxr.free 0
  have f1 := hxr.free 1
  have f2 := hxr.free 2
  have f3 := hxr.free 3
  have lr := hxr.lt
  obtain ⟨s0, s1, s2, s3⟩ := ((((hxr.set 0 (.int .i64 0)).set 1 (.int .i64 0)).set 2 (.int .i64 0)).set 3 (.int .i64 0)).four
  go_wp2_with fail
  refine bodyPost_ret (v := .tuple #[.int .i64 0, .agg #[.int .i64 0, .int .i64 0, .int .i64 0, .int .i64 0], .bool false]) (by simp [results, Tryd.results8, go_sem, s0, s1, s2, s3]) (by rfl) ⟨by rfl, ?_⟩
  exact below_sets4 h (Nat.le_succ _) _ _ _ _
end Go.Proofs.YtanmkamagdajpaaDoor
