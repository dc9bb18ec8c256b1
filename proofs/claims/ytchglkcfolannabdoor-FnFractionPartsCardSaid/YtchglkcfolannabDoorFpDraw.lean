/- DrawIsFraction, DrawFloorAndRest, DrawSquareRootOf: loose contracts (own work). -/
import Derived.Test.YtchglkcfolannabDoorFpAny
namespace Go.Proofs.YtchglkcfolannabDoor
open Go.RowKit Go.Joins

/-- A fraction whose parts are ints. -/
def GivesDrawOne (w : World) (e : Ending) (w' : World) : Prop :=
  ∃ p q : Int, (-9223372036854775808 ≤ p ∧ p ≤ 9223372036854775807) ∧ (-9223372036854775808 ≤ q ∧ q ≤ 9223372036854775807) ∧ e = .returned (.agg #[.int .i64 p, .int .i64 q]) ∧ Below w.heap.size w w'
/-- A cursor that has just been made. -/
theorem cur_new (w : World) (A : Option Addr) (n c : Nat) : Cur (w.alloc (.cells #[.slice A n c, .int .i64 0, .int .u64 0] 50)) w.heap.size A n c 0 := ⟨0, 0, Box.new w _ _, Nat.le_refl _, by omega, by omega⟩
/-- What has turned behind the making of the cursor: nothing that was there. -/
theorem Dg.below {w w1 wf : World} {g n c T : Nat} {A : Option Addr} (h : Dg w1 wf g A n c T) (hb : Below w.heap.size w w1) (hg : w.heap.size ≤ g) : Below w.heap.size w wf :=
  hb.grown h.gr hb.size (fun k hk => by cases hk; exact hg)

set_option maxHeartbeats 2000000 in
theorem drawIs_any (A : Option Addr) (n c : Nat) (w : World) (hn : n ≤ 9223372036854775807) (hr : RdB w w.heap.size A n) :
    Calls Tryd.prog 24 #[.slice A n c] w (GivesDrawOne w) := by
  have hx2 := Box.new w 24 #[.int .i64 0, .int .i64 0]
  have b1 := below_alloc1 w (.cells #[.int .i64 0, .int .i64 0] 24)
  obtain ⟨w2, hw2⟩ : ∃ x, x = w.alloc (.cells #[.int .i64 0, .int .i64 0] 24) := ⟨_, rfl⟩
  rw [← hw2] at hx2 b1
  have s2 : w2.heap.size = w.heap.size + 1 := by rw [hw2]; simp
  have hcur := cur_new w2 A n c
  have b3 := below_alloc1 w2 (.cells #[.slice A n c, .int .i64 0, .int .u64 0] 50)
  obtain ⟨w3, hw3⟩ : ∃ x, x = w2.alloc (.cells #[.slice A n c, .int .i64 0, .int .u64 0] 50) := ⟨_, rfl⟩
  rw [← hw3] at hcur b3
  have hb3 : Below w.heap.size w w3 := Below.step b1 b3
  replace hx2 := hx2.kept b3
  have hrd : RdB w3 w2.heap.size A n := (hr.below hb3).more b1.size
  rw [s2] at hcur hrd
  obtain ⟨g, hg⟩ : ∃ g, g = w.heap.size + 1 := ⟨_, rfl⟩
  obtain ⟨B, hB⟩ : ∃ g, g = w.heap.size := ⟨_, rfl⟩
  rw [← hg] at hcur hrd
  rw [← hB] at hx2
  have hd := Dg.start hcur hrd
  have n1 : B ≠ g := by omega
  clear b1 b3 hcur hrd hr
  go_enter Tryd.func24, Tryd.ntmps24
  go_wp2_with fail
  rw [← hw2, ← hw3]
  rw [← hg, ← hB]
  have hBle : w.heap.size ≤ B := by omega
  have hgle : w.heap.size ≤ g := by omega
  clear hw2 hw3 s2 hg hB
  refine (anyFraction_any g A n c 0 _ hd.cur (by omega) hn hd.rd).mono ?_
  rintro e w4 ⟨p, q, hp, hq, rfl, hc1, hg1⟩
  replace hd := hd.on hc1 hg1
  replace hx2 := hx2.on hg1 n1
  obtain ⟨a2, b2⟩ := hx2.two
  have f20 := hx2.free 0
  have f21 := hx2.free 1
  have hbw := hd.below hb3 hgle
  obtain ⟨k0, k1⟩ := ((hx2.set 0 (.int .i64 p)).set 1 (.int .i64 q)).two
  clear hc1 hg1
  go_wp2_with fail
  refine bodyPost_ret (v := .agg #[.int .i64 p, .int .i64 q]) (by simp [results, Tryd.results24, go_sem, k0, k1]) rfl ⟨p, q, hp, hq, rfl, hbw.trans (below_sets hBle 0 1 _ _)⟩

set_option maxHeartbeats 1000000 in
theorem drawFloor_any (A : Option Addr) (n c : Nat) (w : World) (hn : n ≤ 9223372036854775807) (hr : RdB w w.heap.size A n) :
    Calls Tryd.prog 4 #[.slice A n c] w (GivesDrawOne w) := by
  have hx2 := Box.new w 24 #[.int .i64 0, .int .i64 0]
  have b1 := below_alloc1 w (.cells #[.int .i64 0, .int .i64 0] 24)
  have hrd := (hr.below b1).more b1.size
  replace hrd := Lib.hid hrd
  obtain ⟨w2, hw2⟩ : ∃ x, x = w.alloc (.cells #[.int .i64 0, .int .i64 0] 24) := ⟨_, rfl⟩
  rw [← hw2] at hx2 b1 hrd
  clear hr
  go_enter Tryd.func4, Tryd.ntmps4
  go_wp2_with fail
  rw [← hw2]
  clear hw2
  refine (drawIs_any A n c _ hn hrd.out).mono ?_
  rintro e w4 ⟨p, q, hp, hq, rfl, hb⟩
  replace hx2 := hx2.kept hb
  replace b1 := Below.step b1 hb
  obtain ⟨a2, b2⟩ := hx2.two
  have f20 := hx2.free 0
  have f21 := hx2.free 1
  obtain ⟨k0, k1⟩ := ((hx2.set 0 (.int .i64 p)).set 1 (.int .i64 q)).two
  clear hb hrd
  go_wp2_with fail
  refine bodyPost_ret (v := .agg #[.int .i64 p, .int .i64 q]) (by simp [results, Tryd.results4, go_sem, k0, k1]) rfl ⟨p, q, hp, hq, rfl, b1.trans (below_sets (Nat.le_refl _) 0 1 _ _)⟩

theorem sq_bd {p : Int} (h1 : -30000 ≤ p) (h2 : p ≤ 30000) : -1000000000 ≤ p * p ∧ p * p ≤ 1000000000 := by
  have := fr_mul_bd h1 h2 h1 h2
  omega

set_option maxHeartbeats 4000000 in
theorem drawRoot_any (A : Option Addr) (n c : Nat) (w : World) (hn : n ≤ 9223372036854775807) (hr : RdB w w.heap.size A n) :
    Calls Tryd.prog 11 #[.slice A n c] w (GivesDrawOne w) := by
  have hx2 := Box.new w 24 #[.int .i64 0, .int .i64 0]
  have b1 := below_alloc1 w (.cells #[.int .i64 0, .int .i64 0] 24)
  obtain ⟨w2, hw2⟩ : ∃ x, x = w.alloc (.cells #[.int .i64 0, .int .i64 0] 24) := ⟨_, rfl⟩
  rw [← hw2] at hx2 b1
  have s2 : w2.heap.size = w.heap.size + 1 := by rw [hw2]; simp
  have hcur := cur_new w2 A n c
  have b3 := below_alloc1 w2 (.cells #[.slice A n c, .int .i64 0, .int .u64 0] 50)
  obtain ⟨w3, hw3⟩ : ∃ x, x = w2.alloc (.cells #[.slice A n c, .int .i64 0, .int .u64 0] 50) := ⟨_, rfl⟩
  rw [← hw3] at hcur b3
  have hb3 : Below w.heap.size w w3 := Below.step b1 b3
  replace hx2 := hx2.kept b3
  have hrd : RdB w3 w2.heap.size A n := (hr.below hb3).more b1.size
  rw [s2] at hcur hrd
  obtain ⟨g, hg⟩ : ∃ g, g = w.heap.size + 1 := ⟨_, rfl⟩
  obtain ⟨B, hB⟩ : ∃ g, g = w.heap.size := ⟨_, rfl⟩
  rw [← hg] at hcur hrd
  rw [← hB] at hx2
  have hd := Dg.start hcur hrd
  have n1 : B ≠ g := by omega
  clear b1 b3 hcur hrd hr
  go_enter Tryd.func11, Tryd.ntmps11
  go_wp2_with fail
  rw [← hw2, ← hw3]
  rw [← hg, ← hB]
  have hBle : w.heap.size ≤ B := by omega
  have hgle : w.heap.size ≤ g := by omega
  clear hw2 hw3 s2 hg hB
  refine (anyFraction_any g A n c 0 _ hd.cur (by omega) hn hd.rd).mono ?_
  rintro e w4 ⟨p, q, hp, hq, rfl, hc1, hg1⟩
  replace hd := hd.on hc1 hg1
  replace hx2 := hx2.on hg1 n1
  have hlB := hx2.lt
  have hlg := hd.cur.lt
  have hxa := Box.new w4 24 #[.int .i64 p, .int .i64 q]
  have hA := below_alloc1 w4 (.cells #[.int .i64 p, .int .i64 q] 24)
  replace hd := hd.kept hA
  replace hx2 := hx2.kept hA
  clear hA hc1 hg1
  go_wp2_with fail
  generalize w4.alloc (.cells #[.int .i64 p, .int .i64 q] 24) = w5 at *
  obtain ⟨b, hb⟩ : ∃ b, b = w4.heap.size := ⟨_, rfl⟩
  rw [← hb] at hxa hlB hlg ⊢
  have n2 : b ≠ g := by omega
  have n3 : b ≠ B := by omega
  have n4 : B ≠ b := by omega
  clear hb hlB hlg
  by_cases hG : FrG p q
  · refine (frGood_yes p q _ hG).mono ?_
    rintro e w6 ⟨rfl, hb⟩
    replace hd := hd.kept hb
    replace hx2 := hx2.kept hb
    replace hxa := hxa.kept hb
    clear hb
    obtain ⟨aa, ba⟩ := hxa.two
    by_cases hP : -30000 ≤ p ∧ p ≤ 30000
    · obtain ⟨hP1, hP2⟩ := hP
      go_wp2_with fail
      refine (l1In_yes p (-30000) 30000 _ hP1 hP2).mono ?_
      rintro e w7 ⟨rfl, rfl⟩
      by_cases hQ : q ≤ 30000
      · have hQ1 : -30000 ≤ q := by have := hG.1; omega
        obtain ⟨sp1, sp2⟩ := sq_bd hP1 hP2
        obtain ⟨sq1, sq2⟩ := sq_bd hQ1 hQ
        go_wp2_with fail
        refine (one_any g A n c (0 + 18) 4 _ hd.cur (by omega) hn hd.rd (by omega) (by omega)).mono ?_
        rintro e w8 ⟨o, rfl, hc1, hg1⟩
        replace hd := hd.on hc1 hg1
        replace hx2 := hx2.on hg1 n1
        replace hxa := hxa.on hg1 n2
        clear hc1 hg1 aa ba
        obtain ⟨aa, ba⟩ := hxa.two
        obtain ⟨a2, b2⟩ := hx2.two
        have f20 := hx2.free 0
        have f21 := hx2.free 1
        have hbw := hd.below hb3 hgle
        cases o with
        | true =>
          obtain ⟨k0, k1⟩ := ((hx2.set 0 (.int .i64 p)).set 1 (.int .i64 q)).two
          go_wp2_with fail
          refine bodyPost_ret (v := .agg #[.int .i64 p, .int .i64 q]) (by simp [results, Tryd.results11, go_sem, k0, k1]) rfl ⟨p, q, hp, hq, rfl, hbw.trans (below_sets hBle 0 1 _ _)⟩
        | false =>
          obtain ⟨k0, k1⟩ := ((hx2.set 0 (.int .i64 (p * p))).set 1 (.int .i64 (q * q))).two
          go_wp2_with fail
          refine bodyPost_ret (v := .agg #[.int .i64 (p * p), .int .i64 (q * q)]) (by simp [results, Tryd.results11, go_sem, k0, k1]) rfl ⟨p * p, q * q, by omega, by omega, rfl, hbw.trans (below_sets hBle 0 1 _ _)⟩
      · obtain ⟨a2, b2⟩ := hx2.two
        have f20 := hx2.free 0
        have f21 := hx2.free 1
        have hbw := hd.below hb3 hgle
        obtain ⟨k0, k1⟩ := ((hx2.set 0 (.int .i64 p)).set 1 (.int .i64 q)).two
        go_wp2_with fail
        refine bodyPost_ret (v := .agg #[.int .i64 p, .int .i64 q]) (by simp [results, Tryd.results11, go_sem, k0, k1]) rfl ⟨p, q, hp, hq, rfl, hbw.trans (below_sets hBle 0 1 _ _)⟩
    · go_wp2_with fail
      refine (l1In_no p (-30000) 30000 _ (by omega)).mono ?_
      rintro e w7 ⟨rfl, rfl⟩
      obtain ⟨a2, b2⟩ := hx2.two
      have f20 := hx2.free 0
      have f21 := hx2.free 1
      have hbw := hd.below hb3 hgle
      obtain ⟨k0, k1⟩ := ((hx2.set 0 (.int .i64 p)).set 1 (.int .i64 q)).two
      go_wp2_with fail
      refine bodyPost_ret (v := .agg #[.int .i64 p, .int .i64 q]) (by simp [results, Tryd.results11, go_sem, k0, k1]) rfl ⟨p, q, hp, hq, rfl, hbw.trans (below_sets hBle 0 1 _ _)⟩
  · refine (frGood_no p q _ hG).mono ?_
    rintro e w6 ⟨rfl, hb⟩
    replace hd := hd.kept hb
    replace hx2 := hx2.kept hb
    replace hxa := hxa.kept hb
    clear hb
    obtain ⟨aa, ba⟩ := hxa.two
    obtain ⟨a2, b2⟩ := hx2.two
    have f20 := hx2.free 0
    have f21 := hx2.free 1
    have hbw := hd.below hb3 hgle
    obtain ⟨k0, k1⟩ := ((hx2.set 0 (.int .i64 p)).set 1 (.int .i64 q)).two
    go_wp2_with fail
    refine bodyPost_ret (v := .agg #[.int .i64 p, .int .i64 q]) (by simp [results, Tryd.results11, go_sem, k0, k1]) rfl ⟨p, q, hp, hq, rfl, hbw.trans (below_sets hBle 0 1 _ _)⟩
end Go.Proofs.YtchglkcfolannabDoor
