/- DrawSimplestIn: a loose contract: two fractions come back (written by wip/gen/fpsi2.py). -/
import Derived.Test.YtchglkcfolannabDoorFpAdd
import Derived.Test.YtchglkcfolannabDoorFpDraw
import Derived.Test.YtchglkcfolannabDoorFpHalf
namespace Go.Proofs.YtchglkcfolannabDoor
open Go.RowKit Go.Joins

/-- Two fractions whose parts are ints. -/
def GivesDrawFF (w : World) (e : Ending) (w' : World) : Prop :=
  ∃ p0 q0 p1 q1 : Int, (-9223372036854775808 ≤ p0 ∧ p0 ≤ 9223372036854775807) ∧ (-9223372036854775808 ≤ q0 ∧ q0 ≤ 9223372036854775807) ∧ (-9223372036854775808 ≤ p1 ∧ p1 ≤ 9223372036854775807) ∧ (-9223372036854775808 ≤ q1 ∧ q1 ≤ 9223372036854775807) ∧
    e = .returned (.tuple #[.agg #[.int .i64 p0, .int .i64 q0], .agg #[.int .i64 p1, .int .i64 q1]]) ∧ Below w.heap.size w w'

theorem pair_end {w : World} {B B1 : Nat} {x0 y0 x1 y1 : Value} (h2 : Box w B 24 #[x0, y0]) (h3 : Box w B1 24 #[x1, y1]) (hne : B ≠ B1) (p0 q0 p1 q1 : Value) :
    Box ((((w.setCell ⟨B, 0, none⟩ p0).setCell ⟨B, 1, none⟩ q0).setCell ⟨B1, 0, none⟩ p1).setCell ⟨B1, 1, none⟩ q1) B 24 #[p0, q0] ∧
    Box ((((w.setCell ⟨B, 0, none⟩ p0).setCell ⟨B, 1, none⟩ q0).setCell ⟨B1, 0, none⟩ p1).setCell ⟨B1, 1, none⟩ q1) B1 24 #[p1, q1] :=
  ⟨(((h2.set 0 p0).set 1 q0).apart hne 0 p1).apart hne 1 q1, (((h3.apart (Ne.symm hne) 0 p0).apart (Ne.symm hne) 1 q0).set 0 p1).set 1 q1⟩
theorem below_drew {B : Nat} {a w : World} (h : Below B a w) : Below B a w.drew := ⟨h.os, h.tape, h.output, h.size, h.block⟩
theorem below_pair {w : World} {N B B1 : Nat} (hB : N ≤ B) (hB1 : N ≤ B1) (p0 q0 p1 q1 : Value) : Below N w ((((w.setCell ⟨B, 0, none⟩ p0).setCell ⟨B, 1, none⟩ q0).setCell ⟨B1, 0, none⟩ p1).setCell ⟨B1, 1, none⟩ q1) :=
  (below_sets hB 0 1 p0 q0).trans (below_sets hB1 0 1 p1 q1)

/-- What is kept while the second draw goes on: the cursor, the two results' cells, the two fractions. -/
structure Rb (w3 W : World) (g : Nat) (A : Option Addr) (n c T B B1 a b : Nat) (p q p1 q1 : Int) : Prop where
  d : Dg w3 W g A n c T
  x2 : Box W B 24 #[.int .i64 0, .int .i64 0]
  x3 : Box W B1 24 #[.int .i64 0, .int .i64 0]
  xa : Box W a 24 #[.int .i64 p, .int .i64 q]
  xb : Box W b 24 #[.int .i64 p1, .int .i64 q1]
theorem Rb.kept {w3 W W' : World} {g n c T B B1 a b : Nat} {A : Option Addr} {p q p1 q1 : Int} (h : Rb w3 W g A n c T B B1 a b p q p1 q1) (hb : Below W.heap.size W W') : Rb w3 W' g A n c T B B1 a b p q p1 q1 :=
  ⟨h.d.kept hb, h.x2.kept hb, h.x3.kept hb, h.xa.kept hb, h.xb.kept hb⟩
theorem Rb.on {w3 W W' : World} {g n c T T' B B1 a b : Nat} {A : Option Addr} {p q p1 q1 : Int} (h : Rb w3 W g A n c T B B1 a b p q p1 q1) (hc : Cur W' g A n c T') (hg : W.grownBy W' (some g)) (n1 : B ≠ g) (n2 : B1 ≠ g) (n3 : a ≠ g) (n4 : b ≠ g) : Rb w3 W' g A n c T' B B1 a b p q p1 q1 :=
  ⟨h.d.on hc hg, h.x2.on hg n1, h.x3.on hg n2, h.xa.on hg n3, h.xb.on hg n4⟩
theorem Rb.more {w3 W : World} {g n c T T' B B1 a b : Nat} {A : Option Addr} {p q p1 q1 : Int} (h : Rb w3 W g A n c T B B1 a b p q p1 q1) (hT : T ≤ T') : Rb w3 W g A n c T' B B1 a b p q p1 q1 := ⟨h.d.more hT, h.x2, h.x3, h.xa, h.xb⟩
theorem Rb.sets {w3 W : World} {g n c T B B1 a b K : Nat} {A : Option Addr} {p q p1 q1 : Int} (h : Rb w3 W g A n c T B B1 a b p q p1 q1) (hg : g < w3.heap.size) (hK : w3.heap.size ≤ K) (n1 : K ≠ B) (n2 : K ≠ B1) (n3 : K ≠ a) (n4 : K ≠ b) (u v : Value) :
    Rb w3 ((W.setCell ⟨K, 0, none⟩ u).setCell ⟨K, 1, none⟩ v) g A n c T B B1 a b p q p1 q1 :=
  ⟨(h.d.set hg hK 0 u).set hg hK 1 v, (h.x2.apart (Ne.symm n1) 0 u).apart (Ne.symm n1) 1 v, (h.x3.apart (Ne.symm n2) 0 u).apart (Ne.symm n2) 1 v, (h.xa.apart (Ne.symm n3) 0 u).apart (Ne.symm n3) 1 v, (h.xb.apart (Ne.symm n4) 0 u).apart (Ne.symm n4) 1 v⟩
theorem Rb.lt {w3 W : World} {g n c T B B1 a b : Nat} {A : Option Addr} {p q p1 q1 : Int} (h : Rb w3 W g A n c T B B1 a b p q p1 q1) : g < W.heap.size ∧ B < W.heap.size ∧ B1 < W.heap.size ∧ a < W.heap.size ∧ b < W.heap.size ∧ w3.heap.size ≤ W.heap.size :=
  ⟨h.d.cur.lt, h.x2.lt, h.x3.lt, h.xa.lt, h.xb.lt, h.d.gr.size⟩
theorem box_sets {W : World} {K : Nat} {x y : Value} (h : Box W K 24 #[x, y]) (u v : Value) : Box ((W.setCell ⟨K, 0, none⟩ u).setCell ⟨K, 1, none⟩ v) K 24 #[u, v] := (h.set 0 u).set 1 v
theorem below_same {W W' : World} (h1 : W'.os = W.os) (h2 : W'.tape = W.tape) (h3 : W'.output = W.output) (h4 : W'.heap = W.heap) : Below W.heap.size W W' := ⟨h1, h2, h3, by rw [h4]; exact Nat.le_refl _, fun k _ => by rw [h4]⟩

set_option maxHeartbeats 8000000 in
theorem drawSimp_any (A : Option Addr) (n c : Nat) (w : World) (hn : n ≤ 9223372036854775807) (hr : RdB w w.heap.size A n) :
    Calls Tryd.prog 14 #[.slice A n c] w (GivesDrawFF w) := by
  have hx2 := Box.new w 24 #[.int .i64 0, .int .i64 0]
  have b1 := below_alloc1 w (.cells #[.int .i64 0, .int .i64 0] 24)
  obtain ⟨w1, hw1⟩ : ∃ x, x = w.alloc (.cells #[.int .i64 0, .int .i64 0] 24) := ⟨_, rfl⟩
  rw [← hw1] at hx2 b1
  have hx3 := Box.new w1 24 #[.int .i64 0, .int .i64 0]
  have b2 := below_alloc1 w1 (.cells #[.int .i64 0, .int .i64 0] 24)
  have s1 : w1.heap.size = w.heap.size + 1 := by rw [hw1]; simp
  obtain ⟨w2, hw2⟩ : ∃ x, x = w1.alloc (.cells #[.int .i64 0, .int .i64 0] 24) := ⟨_, rfl⟩
  rw [← hw2] at hx3 b2
  have s2 : w2.heap.size = w.heap.size + 2 := by rw [hw2]; simp; omega
  replace hx2 := hx2.kept b2
  have hb2 : Below w.heap.size w w2 := Below.step b1 b2
  have hcur := cur_new w2 A n c
  have b3 := below_alloc1 w2 (.cells #[.slice A n c, .int .i64 0, .int .u64 0] 50)
  obtain ⟨w3, hw3⟩ : ∃ x, x = w2.alloc (.cells #[.slice A n c, .int .i64 0, .int .u64 0] 50) := ⟨_, rfl⟩
  rw [← hw3] at hcur b3
  have hb3 : Below w.heap.size w w3 := Below.step hb2 b3
  replace hx2 := hx2.kept b3
  replace hx3 := hx3.kept b3
  have hrd : RdB w3 w2.heap.size A n := (hr.below hb3).more hb2.size
  have s3 : w3.heap.size = w.heap.size + 3 := by rw [hw3]; simp; omega
  rw [s1] at hx3
  rw [s2] at hcur hrd
  obtain ⟨g, hg⟩ : ∃ g, g = w.heap.size + 2 := ⟨_, rfl⟩
  obtain ⟨B, hB⟩ : ∃ g, g = w.heap.size := ⟨_, rfl⟩
  obtain ⟨B1, hB1⟩ : ∃ g, g = w.heap.size + 1 := ⟨_, rfl⟩
  rw [← hg] at hcur hrd
  rw [← hB1] at hx3
  rw [← hB] at hx2
  have hd := Dg.start hcur hrd
  have hgl := hcur.lt
  have n_hx2 : B ≠ g := by omega
  have n_hx3 : B1 ≠ g := by omega
  have hbg : B ≤ g := by omega
  clear b1 b2 b3 hb2 hcur hrd hr
  go_enter Tryd.func14, Tryd.ntmps14
  go_wp2_with fail
  rw [← hw1, ← hw2, ← hw3]
  rw [← hg, ← hB1, ← hB]
  have hBle : w.heap.size ≤ B := by omega
  have hB1le : w.heap.size ≤ B1 := by omega
  have hgle : w.heap.size ≤ g := by omega
  have hn23 : B ≠ B1 := by omega
  have hn32 : B1 ≠ B := by omega
  clear hw1 hw2 hw3 s1 s2 s3 hg hB hB1
  refine (one_any g A n c 0 6 _ hd.cur (by omega) hn hd.rd (by omega) (by omega)).mono ?_
  rintro e w4 ⟨o, rfl, hc1, hg1⟩
  replace hd := hd.on hc1 hg1
  replace hx2 := hx2.on hg1 n_hx2
  replace hx3 := hx3.on hg1 n_hx3
  clear hc1 hg1
  cases o with
  | true =>
    go_wp2_with fail
    have hrow : RowIn (w4.alloc (.cells #[.int .i64 999, .int .i64 1000, .int .i64 1001, .int .i64 1000000] 3)) w4.heap.size 4 999 1000000 :=
      row_of (Box.new w4 3 #[.int .i64 999, .int .i64 1000, .int .i64 1001, .int .i64 1000000]) (fun k hk => by
        have hk' : k < 4 := hk
        rcases k with _ | _ | _ | _ | k
        all_goals first | exact ⟨_, rfl, by omega, by omega⟩ | omega)
    have hne : w4.heap.size ≠ g := by have := hd.cur.lt; omega
    have hA := below_alloc1 w4 (.cells #[.int .i64 999, .int .i64 1000, .int .i64 1001, .int .i64 1000000] 3)
    replace hd := hd.kept hA
    replace hx2 := hx2.kept hA
    replace hx3 := hx3.kept hA
    clear hA
    refine (among_any g w4.heap.size A n c (0 + 2) 4 _ 999 1000000 _ hd.cur (by omega) hn hd.rd (by omega) (by omega) hrow hne).mono ?_
    rintro e w5 ⟨z, ⟨z1, z2⟩, rfl, hc1, hg1⟩
    replace hd := hd.on hc1 hg1
    replace hx2 := hx2.on hg1 n_hx2
    replace hx3 := hx3.on hg1 n_hx3
    clear hc1 hg1
    clear hrow hne
    obtain ⟨y, rfl⟩ : ∃ y : Nat, z = y := ⟨z.toNat, by omega⟩
    go_wp2_with fail
    refine (frMake_bd _ _ _ ?_ ?_ ?_ ?_).mono ?_
    case refine_1 => omega
    case refine_2 => omega
    case refine_3 => omega
    case refine_4 => omega
    rintro e w6 ⟨P, Q, C, ⟨hP1, hP2⟩, ⟨hQ1, hQ2⟩, rfl, hb⟩
    replace hd := hd.kept hb
    replace hx2 := hx2.kept hb
    replace hx3 := hx3.kept hb
    clear hb
    have l_hxa := hd.cur.lt
    have lhx2_hxa := hx2.lt
    have lhx3_hxa := hx3.lt
    have hxa := Box.new w6 24 #[.int .i64 P, .int .i64 Q]
    have hA := below_alloc1 w6 (.cells #[.int .i64 P, .int .i64 Q] 24)
    replace hd := hd.kept hA
    replace hx2 := hx2.kept hA
    replace hx3 := hx3.kept hA
    clear hA
    go_wp2_with fail
    generalize w6.alloc (.cells #[.int .i64 P, .int .i64 Q] 24) = w7 at *
    obtain ⟨g_hxa, hg_hxa⟩ : ∃ b, b = w6.heap.size := ⟨_, rfl⟩
    rw [← hg_hxa] at hxa ⊢
    have n_hxa : g_hxa ≠ g := by omega
    have m_hxahx2 : g_hxa ≠ B := by omega
    have k_hxahx2 : B ≠ g_hxa := by omega
    have m_hxahx3 : g_hxa ≠ B1 := by omega
    have k_hxahx3 : B1 ≠ g_hxa := by omega
    clear hg_hxa l_hxa lhx2_hxa lhx3_hxa
    have hbw := hd.below hb3 hgle
    obtain ⟨c0hx2, c1hx2⟩ := hx2.two
    obtain ⟨c0hx3, c1hx3⟩ := hx3.two
    obtain ⟨c0hxa, c1hxa⟩ := hxa.two
    have f0hx2 := hx2.free 0
    have f1hx2 := hx2.free 1
    have f0hx3 := hx3.free 0
    have f1hx3 := hx3.free 1
    obtain ⟨ka, kb⟩ := pair_end hx2 hx3 hn23 (.int .i64 P) (.int .i64 Q) (.int .i64 P) (.int .i64 Q)
    obtain ⟨k0, k1⟩ := ka.two
    obtain ⟨k2, k3⟩ := kb.two
    go_wp2_with fail
    go_region
    all_goals go_wp2_with fail
    all_goals refine bodyPost_ret (v := .tuple #[.agg #[.int .i64 P, .int .i64 Q], .agg #[.int .i64 P, .int .i64 Q]]) (by simp [results, Tryd.results14, go_sem, k0, k1, k2, k3]) rfl ⟨P, Q, P, Q, by omega, by omega, by omega, by omega, rfl, below_drew (hbw.trans (below_pair hBle hB1le _ _ _ _))⟩
  | false =>
    go_wp2_with fail
    refine (anyFraction_sm g A n c (0 + 2) _ hd.cur (by omega) hn hd.rd).mono ?_
    rintro e w5 ⟨p, q, hp, ⟨hq1, hq2⟩, rfl, hc1, hg1⟩
    replace hd := hd.on hc1 hg1
    replace hx2 := hx2.on hg1 n_hx2
    replace hx3 := hx3.on hg1 n_hx3
    clear hc1 hg1
    go_wp2_with fail
    refine (anyFraction_sm g A n c (0 + 2 + 18) _ hd.cur (by omega) hn hd.rd).mono ?_
    rintro e w6 ⟨p1, q1, hp1, ⟨hq11, hq12⟩, rfl, hc1, hg1⟩
    replace hd := hd.on hc1 hg1
    replace hx2 := hx2.on hg1 n_hx2
    replace hx3 := hx3.on hg1 n_hx3
    clear hc1 hg1
    have l_a := hd.cur.lt
    have l2 := hx2.lt
    have l3 := hx3.lt
    have hxa := Box.new w6 24 #[.int .i64 p, .int .i64 q]
    have hA := below_alloc1 w6 (.cells #[.int .i64 p, .int .i64 q] 24)
    replace hd := hd.kept hA
    replace hx2 := hx2.kept hA
    replace hx3 := hx3.kept hA
    have hA2 := below_alloc1 (w6.alloc (.cells #[.int .i64 p, .int .i64 q] 24)) (.cells #[.int .i64 p1, .int .i64 q1] 24)
    have hxb := Box.new (w6.alloc (.cells #[.int .i64 p, .int .i64 q] 24)) 24 #[.int .i64 p1, .int .i64 q1]
    rw [show (w6.alloc (.cells #[.int .i64 p, .int .i64 q] 24)).heap.size = w6.heap.size + 1 from by simp] at hxb
    replace hd := hd.kept hA2
    replace hx2 := hx2.kept hA2
    replace hx3 := hx3.kept hA2
    replace hxa := hxa.kept hA2
    clear hA hA2
    go_wp2_with fail
    generalize (w6.alloc (.cells #[.int .i64 p, .int .i64 q] 24)).alloc (.cells #[.int .i64 p1, .int .i64 q1] 24) = w7 at *
    obtain ⟨g_hxb, hg_b⟩ : ∃ b, b = w6.heap.size + 1 := ⟨_, rfl⟩
    rw [← hg_b] at hxb ⊢
    obtain ⟨g_hxa, hg_a⟩ : ∃ b, b = w6.heap.size := ⟨_, rfl⟩
    rw [← hg_a] at hxa ⊢
    have n_hxa : g_hxa ≠ g := by omega
    have n_hxb : g_hxb ≠ g := by omega
    have m_g_hxaB : g_hxa ≠ B := by omega
    have k_g_hxaB : B ≠ g_hxa := by omega
    have m_g_hxaB1 : g_hxa ≠ B1 := by omega
    have k_g_hxaB1 : B1 ≠ g_hxa := by omega
    have m_g_hxbB : g_hxb ≠ B := by omega
    have k_g_hxbB : B ≠ g_hxb := by omega
    have m_g_hxbB1 : g_hxb ≠ B1 := by omega
    have k_g_hxbB1 : B1 ≠ g_hxb := by omega
    have m_g_hxag_hxb : g_hxa ≠ g_hxb := by omega
    have k_g_hxag_hxb : g_hxb ≠ g_hxa := by omega
    clear hg_a hg_b l_a l2 l3
    refine (one_any g A n c (0 + 2 + 18 + 18) 3 _ hd.cur (by omega) hn hd.rd (by omega) (by omega)).mono ?_
    rintro e w8 ⟨o, rfl, hc1, hg1⟩
    replace hd := hd.on hc1 hg1
    replace hx2 := hx2.on hg1 n_hx2
    replace hx3 := hx3.on hg1 n_hx3
    replace hxa := hxa.on hg1 n_hxa
    replace hxb := hxb.on hg1 n_hxb
    clear hc1 hg1
    clear hbg
    have hR : Rb w3 w8 g A n c (0 + 2 + 18 + 18 + 2) B B1 g_hxa g_hxb p q p1 q1 := ⟨hd, hx2, hx3, hxa, hxb⟩
    clear hd hx2 hx3 hxa hxb
    go_upto_if 35 with fail
    go_cut [] (fun wx => Rb w3 wx g A n c (0 + 2 + 18 + 18 + 2 + 2) B B1 g_hxa g_hxb p q p1 q1)
    case first =>
      cases o with
      | false =>
        go_wp2_with fail
        go_meet
        case rel => exact hR.more (by omega)
      | true =>
        have hrowA : RowP (w8.alloc (.cells #[.int .i64 2, .int .i64 10, .int .i64 100, .int .i64 700] 3)) w8.heap.size 4 (fun z => 2 ≤ z ∧ z ≤ 700 ∧ z % 2 = 0) :=
          row_p (Box.new w8 3 #[.int .i64 2, .int .i64 10, .int .i64 100, .int .i64 700]) (fun k hk => by
            have hk' : k < 4 := hk
            rcases k with _ | _ | _ | _ | k
            all_goals first | exact ⟨_, rfl, by omega⟩ | omega)
        have hrowB : RowP ((w8.alloc (.cells #[.int .i64 0, .int .i64 0] 24)).alloc (.cells #[.int .i64 2, .int .i64 10, .int .i64 100, .int .i64 700] 3)) (w8.heap.size + 1) 4 (fun z => 2 ≤ z ∧ z ≤ 700 ∧ z % 2 = 0) :=
          row_p (show Box ((w8.alloc (.cells #[.int .i64 0, .int .i64 0] 24)).alloc (.cells #[.int .i64 2, .int .i64 10, .int .i64 100, .int .i64 700] 3)) (w8.heap.size + 1) 3 #[.int .i64 2, .int .i64 10, .int .i64 100, .int .i64 700] from by rw [show w8.heap.size + 1 = (w8.alloc (.cells #[.int .i64 0, .int .i64 0] 24)).heap.size from by simp]; exact Box.new _ _ _) (fun k hk => by
            have hk' : k < 4 := hk
            rcases k with _ | _ | _ | _ | k
            all_goals first | exact ⟨_, rfl, by omega⟩ | omega)
        have hrowC : RowP ((w8.alloc (.cells #[.int .i64 2, .int .i64 10, .int .i64 100, .int .i64 700] 3)).alloc (.cells #[.int .i64 0, .int .i64 0] 24)) w8.heap.size 4 (fun z => 2 ≤ z ∧ z ≤ 700 ∧ z % 2 = 0) :=
          row_p ((Box.new w8 3 #[.int .i64 2, .int .i64 10, .int .i64 100, .int .i64 700]).kept (below_alloc1 _ (.cells #[.int .i64 0, .int .i64 0] 24))) (fun k hk => by
            have hk' : k < 4 := hk
            rcases k with _ | _ | _ | _ | k
            all_goals first | exact ⟨_, rfl, by omega⟩ | omega)
        obtain ⟨lg, l2, l3, la, lb, l0⟩ := hR.lt
        have hneA : w8.heap.size ≠ g := by omega
        have hneB : w8.heap.size + 1 ≠ g := by omega
        have hRA := hR.kept (below_alloc1 w8 (.cells #[.int .i64 2, .int .i64 10, .int .i64 100, .int .i64 700] 3))
        have hRB := (hR.kept (below_alloc1 w8 (.cells #[.int .i64 0, .int .i64 0] 24))).kept (below_alloc1 (w8.alloc (.cells #[.int .i64 0, .int .i64 0] 24)) (.cells #[.int .i64 2, .int .i64 10, .int .i64 100, .int .i64 700] 3))
        have hRC := hRA.kept (below_alloc1 (w8.alloc (.cells #[.int .i64 2, .int .i64 10, .int .i64 100, .int .i64 700] 3)) (.cells #[.int .i64 0, .int .i64 0] 24))
        have hkB : Box ((w8.alloc (.cells #[.int .i64 0, .int .i64 0] 24)).alloc (.cells #[.int .i64 2, .int .i64 10, .int .i64 100, .int .i64 700] 3)) w8.heap.size 24 #[.int .i64 0, .int .i64 0] := (Box.new w8 _ _).kept (below_alloc1 _ _)
        have hkC : Box ((w8.alloc (.cells #[.int .i64 2, .int .i64 10, .int .i64 100, .int .i64 700] 3)).alloc (.cells #[.int .i64 0, .int .i64 0] 24)) (w8.heap.size + 1) 24 #[.int .i64 0, .int .i64 0] := by rw [show w8.heap.size + 1 = (w8.alloc (.cells #[.int .i64 2, .int .i64 10, .int .i64 100, .int .i64 700] 3)).heap.size from by simp]; exact Box.new _ _ _
        have key : ∀ (W : World) (b : Nat), Rb w3 W g A n c (0 + 2 + 18 + 18 + 2) B B1 g_hxa g_hxb p q p1 q1 → RowP W b 4 (fun z => 2 ≤ z ∧ z ≤ 700 ∧ z % 2 = 0) → b ≠ g → Calls Tryd.prog 38 #[.pointer (some ⟨g, 0, none⟩), .slice (some ⟨b, 0, none⟩) 4 4] W (GivesDraw W g A n c (0 + 2 + 18 + 18 + 2 + 2) (fun z => 2 ≤ z ∧ z ≤ 700 ∧ z % 2 = 0)) := fun W b hW hrow hne =>
          among_p g b A n c (0 + 2 + 18 + 18 + 2) 4 _ (fun z => 2 ≤ z ∧ z ≤ 700 ∧ z % 2 = 0) _ hW.d.cur (by omega) hn hW.d.rd (by omega) (by omega) hrow hne
        replace key := Lib.hid key
        obtain ⟨c0, c1⟩ := hR.xa.two
        go_upto_region 8 with fail
        go_cut [10, 11] (fun x y wx => ∃ (P Q : Int) (C : Bool) (k : Nat), x = .pointer (some ⟨k, 0, none⟩) ∧ y = .bool C ∧ (-1000000000 ≤ P ∧ P ≤ 1000000000) ∧ (-1000000000 ≤ Q ∧ Q ≤ 1000000000) ∧ k ≠ g ∧ k ≠ B ∧ k ≠ B1 ∧ Box wx k 24 #[.int .i64 P, .int .i64 Q] ∧ Rb w3 wx g A n c (0 + 2 + 18 + 18 + 2 + 2) B B1 g_hxa g_hxb p q p1 q1)
        case first =>
          go_region_with (first
            | (go_at_call 38; (with_reducible refine (key.out _ _ ?_ ?_ ?_).mono ?_); (first | exact hRA.kept ⟨rfl, rfl, rfl, Nat.le_refl _, fun _ _ => rfl⟩ | exact hRB.kept ⟨rfl, rfl, rfl, Nat.le_refl _, fun _ _ => rfl⟩ | exact hRC.kept ⟨rfl, rfl, rfl, Nat.le_refl _, fun _ _ => rfl⟩); (first | exact hrowA | exact hrowB | exact hrowC); (first | exact hneA | exact hneB); rintro e w9 ⟨z, hz, rfl, hc9, hgx⟩; (first | (have hgy : (w8.alloc (.cells #[.int .i64 2, .int .i64 10, .int .i64 100, .int .i64 700] 3)).grownBy w9 (some g) := ⟨hgx.os, hgx.tape, hgx.output, hgx.size, hgx.block⟩; have hR9 := hRA.on hc9 hgy n_hx2 n_hx3 n_hxa n_hxb) | (have hgy : ((w8.alloc (.cells #[.int .i64 0, .int .i64 0] 24)).alloc (.cells #[.int .i64 2, .int .i64 10, .int .i64 100, .int .i64 700] 3)).grownBy w9 (some g) := ⟨hgx.os, hgx.tape, hgx.output, hgx.size, hgx.block⟩; have hR9 := hRB.on hc9 hgy n_hx2 n_hx3 n_hxa n_hxb; have hK9 := hkB.on hgy hneA) | (have hgy : ((w8.alloc (.cells #[.int .i64 2, .int .i64 10, .int .i64 100, .int .i64 700] 3)).alloc (.cells #[.int .i64 0, .int .i64 0] 24)).grownBy w9 (some g) := ⟨hgx.os, hgx.tape, hgx.output, hgx.size, hgx.block⟩; have hR9 := hRC.on hc9 hgy n_hx2 n_hx3 n_hxa n_hxb; have hK9 := hkC.on hgy hneB)); obtain ⟨c09, c19⟩ := hR9.xa.two; have la9 := hR9.xa.lt; (first | (have hK10 := hK9.kept (Below.refl _ _); obtain ⟨d09, d19⟩ := hK9.two; have ld9 := hK9.lt; have fd09 := hK9.free 0; have fd19 := hK9.free 1; clear hK10) | skip); clear hgx)
            | (go_at_call 40; (with_reducible refine (frAdd_sm _ _ _ _ hp ⟨hq1, hq2⟩ hz).mono ?_); rintro e w10 ⟨P, Q, C, hP, hQ, rfl, hbx⟩; (first | (have hb10 : Below w9.heap.size w9 w10 := ⟨hbx.os, hbx.tape, hbx.output, hbx.size, hbx.block⟩; have hR10 := hR9.kept hb10; (first | have hK10 := hK9.kept hb10 | skip)) | (have hb10 : Below (w9.alloc (.cells #[.int .i64 0, .int .i64 0] 24)).heap.size (w9.alloc (.cells #[.int .i64 0, .int .i64 0] 24)) w10 := ⟨hbx.os, hbx.tape, hbx.output, hbx.size, hbx.block⟩; have hR10 := (hR9.kept (below_alloc1 w9 (.cells #[.int .i64 0, .int .i64 0] 24))).kept hb10; have hK10 := (Box.new w9 24 #[.int .i64 0, .int .i64 0]).kept hb10)); obtain ⟨c010, c110⟩ := hR10.xa.two; have la10 := hR10.xa.lt; (first | (obtain ⟨d010, d110⟩ := hK10.two; have ld10 := hK10.lt; have fd0 := hK10.free 0; have fd1 := hK10.free 1) | skip); clear hbx))
          all_goals go_wp2_with fail
          all_goals go_meet
          all_goals (
            obtain ⟨lg9, l29, l39, la9', lb9, l09⟩ := hR9.lt
            obtain ⟨lg10, l210, l310, la10', lb10, l010⟩ := hR10.lt
            first
            | exact ⟨P, Q, C, _, rfl, rfl, hP, hQ, by omega, by omega, by omega, Box.new _ _ _, hR10.kept (below_alloc1 _ _)⟩
            | exact ⟨P, Q, C, _, rfl, rfl, hP, hQ, by omega, by omega, by omega, box_sets hK10 _ _, hR10.sets hgl (by omega) (by omega) (by omega) (by omega) (by omega) _ _⟩)
        case rest =>
          clear hR hrowA hrowB hrowC hRA hRB hRC hkB hkC key c0 c1 lg l2 l3 la lb l0 hneA hneB
          obtain ⟨P, Q, C, k, rfl, rfl, ⟨hP1, hP2⟩, ⟨hQ1, hQ2⟩, nk1, nk2, nk3, hk, hR⟩ := hcut
          rename World => wd
          cases C with
          | false =>
            go_wp2_with fail
            go_meet
            case rel => exact hR
          | true =>
            obtain ⟨ca0, ca1⟩ := hR.xa.two
            by_cases hG : FrG p q
            · go_wp2_with fail
              refine (frGood_yes p q _ hG).mono ?_
              rintro e we ⟨rfl, hb⟩
              replace hR := hR.kept hb
              replace hk := hk.kept hb
              clear hb ca0 ca1
              have hbw := hR.d.below hb3 hgle
              have hx2 := hR.x2
              have hx3 := hR.x3
              obtain ⟨ca0, ca1⟩ := hR.xa.two
              obtain ⟨cb0, cb1⟩ := hR.xb.two
              obtain ⟨ck0, ck1⟩ := hk.two
              obtain ⟨c0hx2, c1hx2⟩ := hx2.two
              have f0hx2 := hx2.free 0
              have f1hx2 := hx2.free 1
              obtain ⟨c0hx3, c1hx3⟩ := hx3.two
              have f0hx3 := hx3.free 0
              have f1hx3 := hx3.free 1
              obtain ⟨ka, kb⟩ := pair_end hx2 hx3 hn23 (.int .i64 p) (.int .i64 q) (.int .i64 P) (.int .i64 Q)
              obtain ⟨k0, k1⟩ := ka.two
              obtain ⟨k2, k3⟩ := kb.two
              go_wp2_with fail
              go_region
              all_goals go_wp2_with fail
              all_goals refine bodyPost_ret (v := .tuple #[.agg #[.int .i64 p, .int .i64 q], .agg #[.int .i64 P, .int .i64 Q]]) (by simp [results, Tryd.results14, go_sem, k0, k1, k2, k3]) rfl ⟨p, q, P, Q, by omega, by omega, by omega, by omega, rfl, below_drew (hbw.trans (below_pair hBle hB1le _ _ _ _))⟩
            · go_wp2_with fail
              refine (frGood_no p q _ hG).mono ?_
              rintro e we ⟨rfl, hb⟩
              replace hR := hR.kept hb
              clear hb ca0 ca1
              go_wp2_with fail
              go_meet
              case rel => exact hR
    case rest =>
      clear hR
      have hR := hcut
      clear hcut
      rename World => wd
      obtain ⟨ca0, ca1⟩ := hR.xa.two
      obtain ⟨cb0, cb1⟩ := hR.xb.two
      have la := hR.xa.lt
      have lb := hR.xb.lt
      by_cases hG : FrG p q ∧ FrG p1 q1
      · go_wp2_with fail
        refine (frTwo_yes p q p1 q1 _ hG.1 hG.2).mono ?_
        rintro e we ⟨rfl, hb⟩
        replace hR := hR.kept hb
        clear hb ca0 ca1 cb0 cb1 la lb
        obtain ⟨ca0, ca1⟩ := hR.xa.two
        obtain ⟨cb0, cb1⟩ := hR.xb.two
        by_cases hlt : p1 * q < p * q1
        · go_wp2_with fail
          refine (frLess_lt p1 q1 p q _ hG.2 hG.1 hlt).mono ?_
          rintro e wf ⟨rfl, hb⟩
          replace hR := hR.kept hb
          clear hb ca0 ca1 cb0 cb1
          go_wp2_with fail
          refine (one_any g A n c (0 + 2 + 18 + 18 + 2 + 2) 12 _ hR.d.cur (by omega) hn hR.d.rd (by omega) (by omega)).mono ?_
          rintro e wg ⟨o2, rfl, hc1, hg1⟩
          replace hR := hR.on hc1 hg1 n_hx2 n_hx3 n_hxa n_hxb
          clear hc1 hg1
          cases o2 with
          | true =>
            have hbw := hR.d.below hb3 hgle
            have hx2 := hR.x2
            have hx3 := hR.x3
            obtain ⟨ca0, ca1⟩ := hR.xa.two
            obtain ⟨cb0, cb1⟩ := hR.xb.two
            obtain ⟨c0hx2, c1hx2⟩ := hx2.two
            have f0hx2 := hx2.free 0
            have f1hx2 := hx2.free 1
            obtain ⟨c0hx3, c1hx3⟩ := hx3.two
            have f0hx3 := hx3.free 0
            have f1hx3 := hx3.free 1
            obtain ⟨ka, kb⟩ := pair_end hx2 hx3 hn23 (.int .i64 p) (.int .i64 q) (.int .i64 p1) (.int .i64 q1)
            obtain ⟨k0, k1⟩ := ka.two
            obtain ⟨k2, k3⟩ := kb.two
            go_wp2_with fail
            go_region
            all_goals go_wp2_with fail
            all_goals refine bodyPost_ret (v := .tuple #[.agg #[.int .i64 p, .int .i64 q], .agg #[.int .i64 p1, .int .i64 q1]]) (by simp [results, Tryd.results14, go_sem, k0, k1, k2, k3]) rfl ⟨p, q, p1, q1, by omega, by omega, by omega, by omega, rfl, below_drew (hbw.trans (below_pair hBle hB1le _ _ _ _))⟩
          | false =>
            have hbw := hR.d.below hb3 hgle
            have hx2 := hR.x2
            have hx3 := hR.x3
            obtain ⟨ca0, ca1⟩ := hR.xa.two
            obtain ⟨cb0, cb1⟩ := hR.xb.two
            obtain ⟨c0hx2, c1hx2⟩ := hx2.two
            have f0hx2 := hx2.free 0
            have f1hx2 := hx2.free 1
            obtain ⟨c0hx3, c1hx3⟩ := hx3.two
            have f0hx3 := hx3.free 0
            have f1hx3 := hx3.free 1
            obtain ⟨ka, kb⟩ := pair_end hx2 hx3 hn23 (.int .i64 p1) (.int .i64 q1) (.int .i64 p) (.int .i64 q)
            obtain ⟨k0, k1⟩ := ka.two
            obtain ⟨k2, k3⟩ := kb.two
            go_wp2_with fail
            go_region
            all_goals go_wp2_with fail
            all_goals refine bodyPost_ret (v := .tuple #[.agg #[.int .i64 p1, .int .i64 q1], .agg #[.int .i64 p, .int .i64 q]]) (by simp [results, Tryd.results14, go_sem, k0, k1, k2, k3]) rfl ⟨p1, q1, p, q, by omega, by omega, by omega, by omega, rfl, below_drew (hbw.trans (below_pair hBle hB1le _ _ _ _))⟩
        · go_wp2_with fail
          refine (frLess_ge p1 q1 p q _ hG.2 hG.1 (by first | exact hlt | exact Int.not_lt.2 hlt)).mono ?_
          rintro e wf ⟨rfl, hb⟩
          replace hR := hR.kept hb
          clear hb ca0 ca1 cb0 cb1
          have hbw := hR.d.below hb3 hgle
          have hx2 := hR.x2
          have hx3 := hR.x3
          obtain ⟨ca0, ca1⟩ := hR.xa.two
          obtain ⟨cb0, cb1⟩ := hR.xb.two
          obtain ⟨c0hx2, c1hx2⟩ := hx2.two
          have f0hx2 := hx2.free 0
          have f1hx2 := hx2.free 1
          obtain ⟨c0hx3, c1hx3⟩ := hx3.two
          have f0hx3 := hx3.free 0
          have f1hx3 := hx3.free 1
          obtain ⟨ka, kb⟩ := pair_end hx2 hx3 hn23 (.int .i64 p) (.int .i64 q) (.int .i64 p1) (.int .i64 q1)
          obtain ⟨k0, k1⟩ := ka.two
          obtain ⟨k2, k3⟩ := kb.two
          go_wp2_with fail
          go_region
          all_goals go_wp2_with fail
          all_goals refine bodyPost_ret (v := .tuple #[.agg #[.int .i64 p, .int .i64 q], .agg #[.int .i64 p1, .int .i64 q1]]) (by simp [results, Tryd.results14, go_sem, k0, k1, k2, k3]) rfl ⟨p, q, p1, q1, by omega, by omega, by omega, by omega, rfl, below_drew (hbw.trans (below_pair hBle hB1le _ _ _ _))⟩
      · go_wp2_with fail
        refine (frTwo_no p q p1 q1 _ hG).mono ?_
        rintro e we ⟨rfl, hb⟩
        replace hR := hR.kept hb
        clear hb ca0 ca1 cb0 cb1 la lb
        have hbw := hR.d.below hb3 hgle
        have hx2 := hR.x2
        have hx3 := hR.x3
        obtain ⟨ca0, ca1⟩ := hR.xa.two
        obtain ⟨cb0, cb1⟩ := hR.xb.two
        obtain ⟨c0hx2, c1hx2⟩ := hx2.two
        have f0hx2 := hx2.free 0
        have f1hx2 := hx2.free 1
        obtain ⟨c0hx3, c1hx3⟩ := hx3.two
        have f0hx3 := hx3.free 0
        have f1hx3 := hx3.free 1
        obtain ⟨ka, kb⟩ := pair_end hx2 hx3 hn23 (.int .i64 p) (.int .i64 q) (.int .i64 p1) (.int .i64 q1)
        obtain ⟨k0, k1⟩ := ka.two
        obtain ⟨k2, k3⟩ := kb.two
        go_wp2_with fail
        go_region
        all_goals go_wp2_with fail
        all_goals refine bodyPost_ret (v := .tuple #[.agg #[.int .i64 p, .int .i64 q], .agg #[.int .i64 p1, .int .i64 q1]]) (by simp [results, Tryd.results14, go_sem, k0, k1, k2, k3]) rfl ⟨p, q, p1, q1, by omega, by omega, by omega, by omega, rfl, below_drew (hbw.trans (below_pair hBle hB1le _ _ _ _))⟩
end Go.Proofs.YtchglkcfolannabDoor
