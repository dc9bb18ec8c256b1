/- DrawSumOf, DrawFractionOf: loose contracts. -/
import Derived.Test.YtchglkcfolannaaDoorDrawAny
namespace Go.Proofs.YtchglkcfolannaaDoor
open Go.RowKit Go.Joins

/-- Two fractions whose parts are ints. -/
def GivesDrawFF (w : World) (e : Ending) (w' : World) : Prop :=
  ∃ p0 q0 p1 q1 : Int, (-9223372036854775808 ≤ p0 ∧ p0 ≤ 9223372036854775807) ∧ (-9223372036854775808 ≤ q0 ∧ q0 ≤ 9223372036854775807) ∧ (-9223372036854775808 ≤ p1 ∧ p1 ≤ 9223372036854775807) ∧ (-9223372036854775808 ≤ q1 ∧ q1 ≤ 9223372036854775807) ∧
    e = .returned (.tuple #[.agg #[.int .i64 p0, .int .i64 q0], .agg #[.int .i64 p1, .int .i64 q1]]) ∧ Below w.heap.size w w'

/-- A cursor that has just been made. -/
theorem cur_new (w : World) (A : Option Addr) (n c : Nat) : Cur (w.alloc (.cells #[.slice A n c, .int .i64 0, .int .u64 0] 41)) w.heap.size A n c 0 := ⟨0, 0, Box.new w _ _, Nat.le_refl _, by omega, by omega⟩
/-- What has turned behind the making of the cursor: nothing that was there. -/
theorem Dg.below {w w1 wf : World} {g n c T : Nat} {A : Option Addr} (h : Dg w1 wf g A n c T) (hb : Below w.heap.size w w1) (hg : w.heap.size ≤ g) : Below w.heap.size w wf :=
  hb.grown h.gr hb.size (fun k hk => by cases hk; exact hg)

theorem pair_end {w : World} {B B1 : Nat} {x0 y0 x1 y1 : Value} (h2 : Box w B 24 #[x0, y0]) (h3 : Box w B1 24 #[x1, y1]) (hne : B ≠ B1) (p0 q0 p1 q1 : Value) :
    Box ((((w.setCell ⟨B, 0, none⟩ p0).setCell ⟨B, 1, none⟩ q0).setCell ⟨B1, 0, none⟩ p1).setCell ⟨B1, 1, none⟩ q1) B 24 #[p0, q0] ∧
    Box ((((w.setCell ⟨B, 0, none⟩ p0).setCell ⟨B, 1, none⟩ q0).setCell ⟨B1, 0, none⟩ p1).setCell ⟨B1, 1, none⟩ q1) B1 24 #[p1, q1] :=
  ⟨(((h2.set 0 p0).set 1 q0).apart hne 0 p1).apart hne 1 q1, (((h3.apart (Ne.symm hne) 0 p0).apart (Ne.symm hne) 1 q0).set 0 p1).set 1 q1⟩
theorem below_drew {B : Nat} {a w : World} (h : Below B a w) : Below B a w.drew := ⟨h.os, h.tape, h.output, h.size, h.block⟩
theorem below_pair {w : World} {N B B1 : Nat} (hB : N ≤ B) (hB1 : N ≤ B1) (p0 q0 p1 q1 : Value) : Below N w ((((w.setCell ⟨B, 0, none⟩ p0).setCell ⟨B, 1, none⟩ q0).setCell ⟨B1, 0, none⟩ p1).setCell ⟨B1, 1, none⟩ q1) :=
  (below_sets hB 0 1 p0 q0).trans (below_sets hB1 0 1 p1 q1)

set_option maxHeartbeats 4000000 in
theorem drawSumOf_any (A : Option Addr) (n c : Nat) (w : World) (hn : n ≤ 9223372036854775807) (hr : RdB w w.heap.size A n) :
    Calls Tryd.prog 4 #[.slice A n c] w (GivesDrawFF w) := by
  have hx2 := Box.new w 24 #[.int .i64 0, .int .i64 0]
  have b1 := below_alloc1 w (.cells #[.int .i64 0, .int .i64 0] 24)
  obtain ⟨w1, hw1⟩ : ∃ x, x = w.alloc (.cells #[.int .i64 0, .int .i64 0] 24) := ⟨_, rfl⟩
  rw [← hw1] at hx2 b1
  have hx3 := Box.new w1 24 #[.int .i64 0, .int .i64 0]
  have b2 := below_alloc1 w1 (.cells #[.int .i64 0, .int .i64 0] 24)
  have s1 : w1.heap.size = w.heap.size + 1 := by rw [hw1]; simp
  obtain ⟨w2, hw2⟩ : ∃ x, x = w1.alloc (.cells #[.int .i64 0, .int .i64 0] 24) := ⟨_, rfl⟩
  rw [← hw2] at hx3 b2
  have s2 : w2.heap.size = w.heap.size + 2 := by rw [hw2]; simp; omega
  replace hx2 := hx2.kept b2
  have hb2 : Below w.heap.size w w2 := Below.step b1 b2
  have hcur := cur_new w2 A n c
  have b3 := below_alloc1 w2 (.cells #[.slice A n c, .int .i64 0, .int .u64 0] 41)
  obtain ⟨w3, hw3⟩ : ∃ x, x = w2.alloc (.cells #[.slice A n c, .int .i64 0, .int .u64 0] 41) := ⟨_, rfl⟩
  rw [← hw3] at hcur b3
  have hb3 : Below w.heap.size w w3 := Below.step hb2 b3
  replace hx2 := hx2.kept b3
  replace hx3 := hx3.kept b3
  have hrd : RdB w3 w2.heap.size A n := (hr.below hb3).more hb2.size
  have s3 : w3.heap.size = w.heap.size + 3 := by rw [hw3]; simp; omega
  rw [s1] at hx3
  rw [s2] at hcur hrd
  obtain ⟨g, hg⟩ : ∃ g, g = w.heap.size + 2 := ⟨_, rfl⟩
  obtain ⟨B, hB⟩ : ∃ g, g = w.heap.size := ⟨_, rfl⟩
  obtain ⟨B1, hB1⟩ : ∃ g, g = w.heap.size + 1 := ⟨_, rfl⟩
  rw [← hg] at hcur hrd
  rw [← hB1] at hx3
  rw [← hB] at hx2
  have hd := Dg.start hcur hrd
  have hgl := hcur.lt
  have n1 : B ≠ g := by omega
  have n2 : B1 ≠ g := by omega
  have hbg : B ≤ g := by omega
  clear b1 b2 b3 hb2 hcur hrd hr
  go_enter Tryd.func4, Tryd.ntmps4
  go_wp2_with fail
  rw [← hw1, ← hw2, ← hw3]
  rw [← hg, ← hB1, ← hB]
  have hBle : w.heap.size ≤ B := by omega
  have hB1le : w.heap.size ≤ B1 := by omega
  have hgle : w.heap.size ≤ g := by omega
  have hn23 : B ≠ B1 := by omega
  clear hw1 hw2 hw3 s1 s2 s3 hg hB hB1
  refine (anyFraction_any g A n c 0 _ hd.cur (by omega) hn hd.rd).mono ?_
  rintro e w4 ⟨p, q, hp, hq, rfl, hc1, hg1⟩
  replace hd := hd.on hc1 hg1
  replace hx2 := hx2.on hg1 n1
  replace hx3 := hx3.on hg1 n2
  have l4 := hd.gr.size
  have hxa := Box.new w4 24 #[.int .i64 p, .int .i64 q]
  have hA := below_alloc1 w4 (.cells #[.int .i64 p, .int .i64 q] 24)
  have l2 := hx2.lt
  have l3 := hx3.lt
  replace hd := hd.kept hA
  replace hx2 := hx2.kept hA
  replace hx3 := hx3.kept hA
  clear hA hc1 hg1
  go_wp2_with fail
  generalize w4.alloc (.cells #[.int .i64 p, .int .i64 q] 24) = w5 at *
  obtain ⟨b, hb⟩ : ∃ b, b = w4.heap.size := ⟨_, rfl⟩
  rw [← hb] at hxa ⊢
  have n3 : b ≠ g := by omega
  have m1 : b ≠ B := by omega
  have m2 : b ≠ B1 := by omega
  have m3 : B ≠ b := by omega
  have m4 : B1 ≠ b := by omega
  have hn32 : B1 ≠ B := by omega
  clear hb
  refine (one_any g A n c (0 + 18) 8 _ hd.cur (by omega) hn hd.rd (by omega) (by omega)).mono ?_
  rintro e w6 ⟨o, rfl, hc1, hg1⟩
  replace hd := hd.on hc1 hg1
  replace hx2 := hx2.on hg1 n1
  replace hx3 := hx3.on hg1 n2
  replace hxa := hxa.on hg1 n3
  clear hc1 hg1
  obtain ⟨a2, b2⟩ := hx2.two
  have f20 := hx2.free 0
  have f21 := hx2.free 1
  obtain ⟨a3, b3⟩ := hx3.two
  have f30 := hx3.free 0
  have f31 := hx3.free 1
  obtain ⟨aa, ba⟩ := hxa.two
  have hbw : Below w.heap.size w w6 := hd.below hb3 hgle
  cases o with
  | true =>
    obtain ⟨ka, kb⟩ := pair_end hx2 hx3 hn23 (.int .i64 p) (.int .i64 q) (.int .i64 p) (.int .i64 q)
    obtain ⟨k0, k1⟩ := ka.two
    obtain ⟨k2, k3⟩ := kb.two
    go_wp2_with fail
    go_region
    all_goals go_wp2_with fail
    all_goals refine bodyPost_ret (v := .tuple #[.agg #[.int .i64 p, .int .i64 q], .agg #[.int .i64 p, .int .i64 q]]) (by simp [results, Tryd.results4, go_sem, k0, k1, k2, k3]) rfl ⟨p, q, p, q, hp, hq, hp, hq, rfl, below_drew (hbw.trans (below_pair hBle hB1le _ _ _ _))⟩
  | false =>
    have ca := fun (W : World) (hD : Dg w3 W g A n c (0 + 18 + 2)) => anyFraction_any g A n c (0 + 18 + 2) W hD.cur (by omega) hn hD.rd
    replace ca := Lib.hid ca
    have hdd : Dg w3 w6.drew g A n c (0 + 18 + 2) := hd.keptB hgl ⟨rfl, rfl, rfl, Nat.le_refl _, fun _ _ => rfl⟩
    go_wp2_with fail
    go_region_with (go_at_call 21; (with_reducible refine (ca.out _ ?_).mono ?_); (first | exact hd | exact hdd); rintro e w7 ⟨p1, q1, hp1, hq1, rfl, hc7, hg7⟩; have hg8 : w6.grownBy w7 (some g) := ⟨hg7.os, hg7.tape, hg7.output, hg7.size, hg7.block⟩; have hy2 := hx2.on hg8 n1; have hy3 := hx3.on hg8 n2; have hya := hxa.on hg8 n3; obtain ⟨a2', b2'⟩ := hy2.two; have f20' := hy2.free 0; have f21' := hy2.free 1; obtain ⟨a3', b3'⟩ := hy3.two; have f30' := hy3.free 0; have f31' := hy3.free 1; obtain ⟨aa', ba'⟩ := hya.two)
    all_goals (
      obtain ⟨ka, kb⟩ := pair_end hy2 hy3 hn23 (.int .i64 p) (.int .i64 q) (.int .i64 p1) (.int .i64 q1)
      obtain ⟨k0, k1⟩ := ka.two
      obtain ⟨k2, k3⟩ := kb.two
      have hbw7 : Below w.heap.size w w7 := hbw.grown hg8 hbw.size (fun k hk => by cases hk; exact hgle)
      go_wp2_with fail
      refine bodyPost_ret (v := .tuple #[.agg #[.int .i64 p, .int .i64 q], .agg #[.int .i64 p1, .int .i64 q1]]) (by simp [results, Tryd.results4, go_sem, k0, k1, k2, k3]) rfl ⟨p, q, p1, q1, hp, hq, hp1, hq1, rfl, ?_⟩
      first | exact hbw7.trans (below_pair hBle hB1le _ _ _ _) | exact below_drew (hbw7.trans (below_pair hBle hB1le _ _ _ _)))

/-- Two ints. -/
def GivesDrawII (w : World) (e : Ending) (w' : World) : Prop :=
  ∃ z0 z1 : Int, (-9223372036854775808 ≤ z0 ∧ z0 ≤ 9223372036854775807) ∧ (-9223372036854775808 ≤ z1 ∧ z1 ≤ 9223372036854775807) ∧ e = .returned (.tuple #[.int .i64 z0, .int .i64 z1]) ∧ Below w.heap.size w w'

set_option maxHeartbeats 4000000 in
theorem drawFractionOf_any (A : Option Addr) (n c : Nat) (w : World) (hn : n ≤ 9223372036854775807) (hr : RdB w w.heap.size A n) :
    Calls Tryd.prog 15 #[.slice A n c] w (GivesDrawII w) := by
  have hcur := cur_new w A n c
  have b3 := below_alloc1 w (.cells #[.slice A n c, .int .i64 0, .int .u64 0] 41)
  have hrd := (hr.below b3)
  have hd := Dg.start hcur hrd
  have hgl := hcur.lt
  obtain ⟨w1, hw1⟩ : ∃ x, x = w.alloc (.cells #[.slice A n c, .int .i64 0, .int .u64 0] 41) := ⟨_, rfl⟩
  obtain ⟨g, hg⟩ : ∃ g, g = w.heap.size := ⟨_, rfl⟩
  rw [← hw1] at hd b3 hgl
  rw [← hg] at hd hgl
  have hgle : w.heap.size ≤ g := by omega
  clear hcur hrd hr
  go_enter Tryd.func15, Tryd.ntmps15
  go_wp2_with fail
  rw [← hw1, ← hg]
  clear hw1 hg
  refine (pick_any g A n c 0 2001 _ hd.cur (by omega) hn hd.rd (by omega) (by omega)).mono ?_
  rintro e w2 ⟨r1, ⟨a1, a2⟩, rfl, hc1, hg1⟩
  replace hd := hd.on hc1 hg1
  clear hc1 hg1
  go_wp2_with fail
  have hrow : RowIn (w2.alloc (.cells #[.int .i64 1000000000000000001, .int .i64 (-9223372036854775808)] 3)) w2.heap.size 2 (-9223372036854775808) 1000000000000000001 :=
    row_of (Box.new w2 3 #[.int .i64 1000000000000000001, .int .i64 (-9223372036854775808)]) (fun k hk => by
      have hk' : k < 2 := hk
      rcases k with _ | _ | k
      all_goals first | exact ⟨_, rfl, by omega, by omega⟩ | omega)
  have hne : w2.heap.size ≠ g := by have := hd.cur.lt; omega
  replace hd := hd.kept (below_alloc1 w2 (.cells #[.int .i64 1000000000000000001, .int .i64 (-9223372036854775808)] 3))
  refine (among_any g w2.heap.size A n c (0 + 2) 2 _ (-9223372036854775808) 1000000000000000001 _ hd.cur (by omega) hn hd.rd (by omega) (by omega) hrow hne).mono ?_
  rintro e w3 ⟨z, ⟨za, zb⟩, rfl, hc1, hg1⟩
  replace hd := hd.on hc1 hg1
  clear hrow hne hc1 hg1
  go_wp2_with fail
  have hrow : RowIn (w3.alloc (.cells #[.int .i64 0, .int .i64 1, .int .i64 (-1), .int .i64 6, .int .i64 (-4), .int .i64 12, .int .i64 (r1 - 1000), .int .i64 1000000000, .int .i64 1000000001, .int .i64 1000000000000000000, .int .i64 (-1000000000000000000), .int .i64 z] 3)) w3.heap.size 12 (-9223372036854775808) 1000000000000000001 :=
    row_of (Box.new w3 3 #[.int .i64 0, .int .i64 1, .int .i64 (-1), .int .i64 6, .int .i64 (-4), .int .i64 12, .int .i64 (r1 - 1000), .int .i64 1000000000, .int .i64 1000000001, .int .i64 1000000000000000000, .int .i64 (-1000000000000000000), .int .i64 z]) (fun k hk => by
      have hk' : k < 12 := hk
      rcases k with _ | _ | _ | _ | _ | _ | _ | _ | _ | _ | _ | _ | k
      all_goals first | exact ⟨_, rfl, by omega, by omega⟩ | omega)
  have hne : w3.heap.size ≠ g := by have := hd.cur.lt; omega
  replace hd := hd.kept (below_alloc1 w3 (.cells #[.int .i64 0, .int .i64 1, .int .i64 (-1), .int .i64 6, .int .i64 (-4), .int .i64 12, .int .i64 (r1 - 1000), .int .i64 1000000000, .int .i64 1000000001, .int .i64 1000000000000000000, .int .i64 (-1000000000000000000), .int .i64 z] 3))
  refine (among_any g w3.heap.size A n c (0 + 2 + 2) 12 _ (-9223372036854775808) 1000000000000000001 _ hd.cur (by omega) hn hd.rd (by omega) (by omega) hrow hne).mono ?_
  rintro e w4 ⟨z0, ⟨z0a, z0b⟩, rfl, hc1, hg1⟩
  replace hd := hd.on hc1 hg1
  replace hrow := hrow.grown hg1 hne
  clear hc1 hg1
  go_wp2_with fail
  refine (among_any g w3.heap.size A n c (0 + 2 + 2 + 2) 12 _ (-9223372036854775808) 1000000000000000001 _ hd.cur (by omega) hn hd.rd (by omega) (by omega) hrow hne).mono ?_
  rintro e w5 ⟨z1, ⟨z1a, z1b⟩, rfl, hc1, hg1⟩
  replace hd := hd.on hc1 hg1
  clear hrow hne hc1 hg1
  go_wp2_with fail
  go_ret2
  exact ⟨z0, z1, by omega, by omega, rfl, hd.below b3 hgle⟩
end Go.Proofs.YtchglkcfolannaaDoor
