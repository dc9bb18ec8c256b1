/- PowerOfWhole: powers, and the model's side. -/
import Derived.Test.YtlkdelhmjjnnnaaMulW
import Derived.Test.YtlkdelhmjjnnnaaLawPowerOfWhole
namespace Go.Proofs.Ytlkdelhmjjnnnaa
open Go.RowKit Go.Joins

theorem digs_len_mono {m n : Nat} (h : m ≤ n) : (digs m).length ≤ (digs n).length := by
  have h1 := val_lt (digs_rng n)
  rw [digs_val, Int.toNat_natCast] at h1
  exact digs_len_all (by omega)
theorem pow_long {a : Int} {k n : Nat} (hk : k ≤ n) (h : ¬ (digs (a ^ k).natAbs).length ≤ 400) : ¬ (digs (a ^ n).natAbs).length ≤ 400 := by
  rw [Int.natAbs_pow] at h ⊢
  by_cases ha : a.natAbs = 0
  · exfalso
    apply h
    rw [ha]
    have : 0 ^ k ≤ 1 := by rcases k with _ | k <;> simp
    have h2 := digs_len_mono this
    have h3 := digs_len_all (k := 1) (n := 1) (by decide)
    omega
  · have h1 : a.natAbs ^ k ≤ a.natAbs ^ n := Nat.pow_le_pow_right (by omega) hk
    have h2 := digs_len_mono h1
    omega
theorem res_yes {w : World} {z : Int} {e : Ending} {w' : World} (hl : (digs z.natAbs).length ≤ 400) (h : GivesWholeOk w (decide (z < 0)) (digs z.natAbs) true e w') : GivesWholeOk w (resNeg z) (resDigs z) (resOk z) e w' := by
  unfold resNeg resDigs resOk
  rw [if_pos hl, if_pos hl, decide_eq_true hl]
  exact h
theorem res_no {w : World} {z : Int} {e : Ending} {w' : World} (hl : ¬ (digs z.natAbs).length ≤ 400) (h : GivesWholeOk w false [] false e w') : GivesWholeOk w (resNeg z) (resDigs z) (resOk z) e w' := by
  unfold resNeg resDigs resOk
  rw [if_neg hl, if_neg hl, decide_eq_false hl]
  exact h

set_option maxHeartbeats 1000000 in
theorem pwS_no (neg0 : Bool) (A0 : Option Addr) (c0 : Nat) (xs0 : List Int) (z1 : Int) (w : World) (_hl0 : xs0.length ≤ 1048576) (_hr0 : Rd w w.heap.size A0 xs0.length xs0)  (hg : ¬ Good neg0 xs0)  :
    Calls Try.prog 37 #[.agg #[.bool neg0, .slice A0 xs0.length c0], .int .i64 z1] w (GivesWholeOk w false [] false) := by
  have h := Below.refl w.heap.size w
  have hA := below_alloc1 w (.cells #[.bool neg0, .slice A0 xs0.length c0] 27)
  replace h := Below.step h hA
  have hx0 := Box.new w 27 #[.bool neg0, .slice A0 xs0.length c0]
  clear hA
  have hA := below_alloc1 (w.alloc (.cells #[.bool neg0, .slice A0 xs0.length c0] 27)) (.cells #[.bool false, .slice none 0 0] 27)
  replace h := Below.step h hA
  replace hx0 := hx0.kept hA
  have hxr := Box.new (w.alloc (.cells #[.bool neg0, .slice A0 xs0.length c0] 27)) 27 #[.bool false, .slice none 0 0]
  rw [show (w.alloc (.cells #[.bool neg0, .slice A0 xs0.length c0] 27)).heap.size = w.heap.size + 1 from by simp] at hxr
  clear hA
  go_enter Try.func37, Try.ntmps37
  go_wp2_with fail
  refine (bgGood_no neg0 A0 _ c0 xs0 _ (by omega) (_hr0.kept h) hg).mono ?_
  rintro e w1 ⟨rfl, hb⟩
  replace h := Below.step h hb
  replace hx0 := hx0.kept hb
  replace hxr := hxr.kept hb
  clear hb
  obtain ⟨ahx0, bhx0⟩ := hx0.two
  have lhx0 := hx0.lt
  obtain ⟨ahxr, bhxr⟩ := hxr.two
  have lhxr := hxr.lt
  have f0 := hxr.free 0
  have f1 := hxr.free 1
  go_wp2_with fail
  refine bodyPost_ret (v := .tuple #[.agg #[.bool false, .slice none 0 0], .bool false]) (by simp [results, Try.results37, go_sem, ahxr, bhxr]) rfl ⟨none, 0, rfl, World.ownsRow_nil _ _ _ _, ?_⟩
  exact (h.setCell (by first | (simp; done) | (simp; omega)) _).setCell (by first | (simp; done) | (simp; omega)) _

set_option maxHeartbeats 1000000 in
theorem pwI_no (neg0 : Bool) (A0 : Option Addr) (c0 : Nat) (xs0 : List Int) (z1 : Int) (w : World) (_hl0 : xs0.length ≤ 1048576) (_hr0 : Rd w w.heap.size A0 xs0.length xs0)  (hg : ¬ Good neg0 xs0)  :
    Calls Try.prog 38 #[.agg #[.bool neg0, .slice A0 xs0.length c0], .int .i64 z1] w (GivesWholeOk w false [] false) := by
  have h := Below.refl w.heap.size w
  have hA := below_alloc1 w (.cells #[.bool neg0, .slice A0 xs0.length c0] 27)
  replace h := Below.step h hA
  have hx0 := Box.new w 27 #[.bool neg0, .slice A0 xs0.length c0]
  clear hA
  have hA := below_alloc1 (w.alloc (.cells #[.bool neg0, .slice A0 xs0.length c0] 27)) (.cells #[.bool false, .slice none 0 0] 27)
  replace h := Below.step h hA
  replace hx0 := hx0.kept hA
  have hxr := Box.new (w.alloc (.cells #[.bool neg0, .slice A0 xs0.length c0] 27)) 27 #[.bool false, .slice none 0 0]
  rw [show (w.alloc (.cells #[.bool neg0, .slice A0 xs0.length c0] 27)).heap.size = w.heap.size + 1 from by simp] at hxr
  clear hA
  go_enter Try.func38, Try.ntmps38
  go_wp2_with fail
  refine (isWholeI_no neg0 A0 _ c0 xs0 _ (by omega) (_hr0.kept h) hg).mono ?_
  rintro e w1 ⟨rfl, hb⟩
  replace h := Below.step h hb
  replace hx0 := hx0.kept hb
  replace hxr := hxr.kept hb
  clear hb
  obtain ⟨ahx0, bhx0⟩ := hx0.two
  have lhx0 := hx0.lt
  obtain ⟨ahxr, bhxr⟩ := hxr.two
  have lhxr := hxr.lt
  have f0 := hxr.free 0
  have f1 := hxr.free 1
  go_wp2_with fail
  refine bodyPost_ret (v := .tuple #[.agg #[.bool false, .slice none 0 0], .bool false]) (by simp [results, Try.results38, go_sem, ahxr, bhxr]) rfl ⟨none, 0, rfl, World.ownsRow_nil _ _ _ _, ?_⟩
  exact (h.setCell (by first | (simp; done) | (simp; omega)) _).setCell (by first | (simp; done) | (simp; omega)) _

set_option maxHeartbeats 1000000 in
theorem pwS_lo (neg0 : Bool) (A0 : Option Addr) (c0 : Nat) (xs0 : List Int) (z1 : Int) (w : World) (_hl0 : xs0.length ≤ 1048576) (_hr0 : Rd w w.heap.size A0 xs0.length xs0) (hg0 : Good neg0 xs0) (hz : z1 < 0) :
    Calls Try.prog 37 #[.agg #[.bool neg0, .slice A0 xs0.length c0], .int .i64 z1] w (GivesWholeOk w false [] false) := by
  have h := Below.refl w.heap.size w
  have hA := below_alloc1 w (.cells #[.bool neg0, .slice A0 xs0.length c0] 27)
  replace h := Below.step h hA
  have hx0 := Box.new w 27 #[.bool neg0, .slice A0 xs0.length c0]
  clear hA
  have hA := below_alloc1 (w.alloc (.cells #[.bool neg0, .slice A0 xs0.length c0] 27)) (.cells #[.bool false, .slice none 0 0] 27)
  replace h := Below.step h hA
  replace hx0 := hx0.kept hA
  have hxr := Box.new (w.alloc (.cells #[.bool neg0, .slice A0 xs0.length c0] 27)) 27 #[.bool false, .slice none 0 0]
  rw [show (w.alloc (.cells #[.bool neg0, .slice A0 xs0.length c0] 27)).heap.size = w.heap.size + 1 from by simp] at hxr
  clear hA
  go_enter Try.func37, Try.ntmps37
  go_wp2_with fail
  refine (bgGood_yes neg0 A0 _ c0 xs0 _ (_hr0.kept h) hg0).mono ?_
  rintro e w1 ⟨rfl, hb⟩
  replace h := Below.step h hb
  replace hx0 := hx0.kept hb
  replace hxr := hxr.kept hb
  clear hb
  obtain ⟨ahx0, bhx0⟩ := hx0.two
  have lhx0 := hx0.lt
  obtain ⟨ahxr, bhxr⟩ := hxr.two
  have lhxr := hxr.lt
  go_wp2_with fail
  refine (l1In_no z1 _ _ _ (by omega)).mono ?_
  rintro e w9 ⟨rfl, rfl⟩
  have f0 := hxr.free 0
  have f1 := hxr.free 1
  go_wp2_with fail
  refine bodyPost_ret (v := .tuple #[.agg #[.bool false, .slice none 0 0], .bool false]) (by simp [results, Try.results37, go_sem, ahxr, bhxr]) rfl ⟨none, 0, rfl, World.ownsRow_nil _ _ _ _, ?_⟩
  exact (h.setCell (by first | (simp; done) | (simp; omega)) _).setCell (by first | (simp; done) | (simp; omega)) _

set_option maxHeartbeats 1000000 in
theorem pwS_hi (neg0 : Bool) (A0 : Option Addr) (c0 : Nat) (xs0 : List Int) (z1 : Int) (w : World) (_hl0 : xs0.length ≤ 1048576) (_hr0 : Rd w w.heap.size A0 xs0.length xs0) (hg0 : Good neg0 xs0) (hz : 64 < z1) :
    Calls Try.prog 37 #[.agg #[.bool neg0, .slice A0 xs0.length c0], .int .i64 z1] w (GivesWholeOk w false [] false) := by
  have h := Below.refl w.heap.size w
  have hA := below_alloc1 w (.cells #[.bool neg0, .slice A0 xs0.length c0] 27)
  replace h := Below.step h hA
  have hx0 := Box.new w 27 #[.bool neg0, .slice A0 xs0.length c0]
  clear hA
  have hA := below_alloc1 (w.alloc (.cells #[.bool neg0, .slice A0 xs0.length c0] 27)) (.cells #[.bool false, .slice none 0 0] 27)
  replace h := Below.step h hA
  replace hx0 := hx0.kept hA
  have hxr := Box.new (w.alloc (.cells #[.bool neg0, .slice A0 xs0.length c0] 27)) 27 #[.bool false, .slice none 0 0]
  rw [show (w.alloc (.cells #[.bool neg0, .slice A0 xs0.length c0] 27)).heap.size = w.heap.size + 1 from by simp] at hxr
  clear hA
  go_enter Try.func37, Try.ntmps37
  go_wp2_with fail
  refine (bgGood_yes neg0 A0 _ c0 xs0 _ (_hr0.kept h) hg0).mono ?_
  rintro e w1 ⟨rfl, hb⟩
  replace h := Below.step h hb
  replace hx0 := hx0.kept hb
  replace hxr := hxr.kept hb
  clear hb
  obtain ⟨ahx0, bhx0⟩ := hx0.two
  have lhx0 := hx0.lt
  obtain ⟨ahxr, bhxr⟩ := hxr.two
  have lhxr := hxr.lt
  go_wp2_with fail
  refine (l1In_no z1 _ _ _ (by omega)).mono ?_
  rintro e w9 ⟨rfl, rfl⟩
  have f0 := hxr.free 0
  have f1 := hxr.free 1
  go_wp2_with fail
  refine bodyPost_ret (v := .tuple #[.agg #[.bool false, .slice none 0 0], .bool false]) (by simp [results, Try.results37, go_sem, ahxr, bhxr]) rfl ⟨none, 0, rfl, World.ownsRow_nil _ _ _ _, ?_⟩
  exact (h.setCell (by first | (simp; done) | (simp; omega)) _).setCell (by first | (simp; done) | (simp; omega)) _

set_option maxHeartbeats 1000000 in
theorem pwI_lo (neg0 : Bool) (A0 : Option Addr) (c0 : Nat) (xs0 : List Int) (z1 : Int) (w : World) (_hl0 : xs0.length ≤ 1048576) (_hr0 : Rd w w.heap.size A0 xs0.length xs0) (hg0 : Good neg0 xs0) (hz : z1 < 0) :
    Calls Try.prog 38 #[.agg #[.bool neg0, .slice A0 xs0.length c0], .int .i64 z1] w (GivesWholeOk w false [] false) := by
  have h := Below.refl w.heap.size w
  have hA := below_alloc1 w (.cells #[.bool neg0, .slice A0 xs0.length c0] 27)
  replace h := Below.step h hA
  have hx0 := Box.new w 27 #[.bool neg0, .slice A0 xs0.length c0]
  clear hA
  have hA := below_alloc1 (w.alloc (.cells #[.bool neg0, .slice A0 xs0.length c0] 27)) (.cells #[.bool false, .slice none 0 0] 27)
  replace h := Below.step h hA
  replace hx0 := hx0.kept hA
  have hxr := Box.new (w.alloc (.cells #[.bool neg0, .slice A0 xs0.length c0] 27)) 27 #[.bool false, .slice none 0 0]
  rw [show (w.alloc (.cells #[.bool neg0, .slice A0 xs0.length c0] 27)).heap.size = w.heap.size + 1 from by simp] at hxr
  clear hA
  go_enter Try.func38, Try.ntmps38
  go_wp2_with fail
  refine (isWholeI_yes neg0 A0 _ c0 xs0 _ (_hr0.kept h) hg0).mono ?_
  rintro e w1 ⟨rfl, hb⟩
  replace h := Below.step h hb
  replace hx0 := hx0.kept hb
  replace hxr := hxr.kept hb
  clear hb
  obtain ⟨ahx0, bhx0⟩ := hx0.two
  have lhx0 := hx0.lt
  obtain ⟨ahxr, bhxr⟩ := hxr.two
  have lhxr := hxr.lt
  have f0 := hxr.free 0
  have f1 := hxr.free 1
  go_wp2_with fail
  refine bodyPost_ret (v := .tuple #[.agg #[.bool false, .slice none 0 0], .bool false]) (by simp [results, Try.results38, go_sem, ahxr, bhxr]) rfl ⟨none, 0, rfl, World.ownsRow_nil _ _ _ _, ?_⟩
  exact (h.setCell (by first | (simp; done) | (simp; omega)) _).setCell (by first | (simp; done) | (simp; omega)) _

set_option maxHeartbeats 1000000 in
theorem pwI_hi (neg0 : Bool) (A0 : Option Addr) (c0 : Nat) (xs0 : List Int) (z1 : Int) (w : World) (_hl0 : xs0.length ≤ 1048576) (_hr0 : Rd w w.heap.size A0 xs0.length xs0) (hg0 : Good neg0 xs0) (hz : 64 < z1) :
    Calls Try.prog 38 #[.agg #[.bool neg0, .slice A0 xs0.length c0], .int .i64 z1] w (GivesWholeOk w false [] false) := by
  have h := Below.refl w.heap.size w
  have hA := below_alloc1 w (.cells #[.bool neg0, .slice A0 xs0.length c0] 27)
  replace h := Below.step h hA
  have hx0 := Box.new w 27 #[.bool neg0, .slice A0 xs0.length c0]
  clear hA
  have hA := below_alloc1 (w.alloc (.cells #[.bool neg0, .slice A0 xs0.length c0] 27)) (.cells #[.bool false, .slice none 0 0] 27)
  replace h := Below.step h hA
  replace hx0 := hx0.kept hA
  have hxr := Box.new (w.alloc (.cells #[.bool neg0, .slice A0 xs0.length c0] 27)) 27 #[.bool false, .slice none 0 0]
  rw [show (w.alloc (.cells #[.bool neg0, .slice A0 xs0.length c0] 27)).heap.size = w.heap.size + 1 from by simp] at hxr
  clear hA
  have hz2 : ¬ z1 < 0 := by omega
  go_enter Try.func38, Try.ntmps38
  go_wp2_with fail
  refine (isWholeI_yes neg0 A0 _ c0 xs0 _ (_hr0.kept h) hg0).mono ?_
  rintro e w1 ⟨rfl, hb⟩
  replace h := Below.step h hb
  replace hx0 := hx0.kept hb
  replace hxr := hxr.kept hb
  clear hb
  obtain ⟨ahx0, bhx0⟩ := hx0.two
  have lhx0 := hx0.lt
  obtain ⟨ahxr, bhxr⟩ := hxr.two
  have lhxr := hxr.lt
  have f0 := hxr.free 0
  have f1 := hxr.free 1
  go_wp2_with fail
  refine bodyPost_ret (v := .tuple #[.agg #[.bool false, .slice none 0 0], .bool false]) (by simp [results, Try.results38, go_sem, ahxr, bhxr]) rfl ⟨none, 0, rfl, World.ownsRow_nil _ _ _ _, ?_⟩
  exact (h.setCell (by first | (simp; done) | (simp; omega)) _).setCell (by first | (simp; done) | (simp; omega)) _

set_option maxHeartbeats 2000000 in
set_option maxRecDepth 100000 in
theorem pwS_yes (neg0 : Bool) (A0 : Option Addr) (c0 : Nat) (xs0 : List Int) (n : Nat) (w : World) (_hl0 : xs0.length ≤ 1048576) (_hr0 : Rd w w.heap.size A0 xs0.length xs0) (hg0 : Good neg0 xs0) (hn : n ≤ 64) :
    ∀ z, z = num neg0 xs0 ^ n → Calls Try.prog 37 #[.agg #[.bool neg0, .slice A0 xs0.length c0], .int .i64 (n : Int)] w (GivesWholeOk w (resNeg z) (resDigs z) (resOk z)) := by
  intro z hz
  replace hz := Lib.hid hz
  have l0 := hg0.len
  obtain ⟨o, ho⟩ : ∃ o : Int, o = 1 := ⟨_, rfl⟩
  have cO : ∀ W, Calls Try.prog 46 #[.int .i64 1] W (GivesNum W o) := fun W => by rw [ho]; exact bgOf_any 1 W (by omega) (by omega)
  replace cO := Lib.hid cO
  replace ho := Lib.hid ho
  have h := Below.refl w.heap.size w
  have hA := below_alloc1 w (.cells #[.bool neg0, .slice A0 xs0.length c0] 27)
  replace h := Below.step h hA
  have hx0 := Box.new w 27 #[.bool neg0, .slice A0 xs0.length c0]
  clear hA
  have hA := below_alloc1 (w.alloc (.cells #[.bool neg0, .slice A0 xs0.length c0] 27)) (.cells #[.bool false, .slice none 0 0] 27)
  replace h := Below.step h hA
  replace hx0 := hx0.kept hA
  have hxr := Box.new (w.alloc (.cells #[.bool neg0, .slice A0 xs0.length c0] 27)) 27 #[.bool false, .slice none 0 0]
  rw [show (w.alloc (.cells #[.bool neg0, .slice A0 xs0.length c0] 27)).heap.size = w.heap.size + 1 from by simp] at hxr
  clear hA
  go_enter Try.func37, Try.ntmps37
  go_wp2_with fail
  refine (bgGood_yes neg0 A0 _ c0 xs0 _ (_hr0.kept h) hg0).mono ?_
  rintro e w1 ⟨rfl, hb⟩
  replace h := Below.step h hb
  replace hx0 := hx0.kept hb
  replace hxr := hxr.kept hb
  clear hb
  obtain ⟨ahx0, bhx0⟩ := hx0.two
  have lhx0 := hx0.lt
  obtain ⟨ahxr, bhxr⟩ := hxr.two
  have lhxr := hxr.lt
  go_wp2_with fail
  refine (l1In_yes (n : Int) _ _ _ (by omega) (by omega)).mono ?_
  rintro e w9 ⟨rfl, rfl⟩
  go_wp2_with fail
  have hbase := h.size
  refine (cO.out _).mono ?_
  rintro e w2 ⟨Aq, cq, rfl, hoq, hb⟩
  replace h := Below.step h hb
  replace hx0 := hx0.kept hb
  replace hxr := hxr.kept hb
  clear hb ahx0 bhx0 lhx0 ahxr bhxr lhxr
  obtain ⟨ahx0, bhx0⟩ := hx0.two
  have lhx0 := hx0.lt
  obtain ⟨ahxr, bhxr⟩ := hxr.two
  have lhxr := hxr.lt
  obtain ⟨gx, eg⟩ : ∃ g, g = w2.heap.size := ⟨_, rfl⟩
  have hgx : w.heap.size ≤ gx := by have := h.size; omega
  obtain ⟨g0, e0⟩ : ∃ g, g = w.heap.size := ⟨_, rfl⟩
  obtain ⟨gr, er⟩ : ∃ g, g = w.heap.size + 1 := ⟨_, rfl⟩
  have hgr : w.heap.size ≤ gr := by omega
  have n0 : g0 ≠ gx := by omega
  have n1 : gr ≠ gx := by omega
  have hyx := Box.new w2 27 #[.bool (decide (o < 0)), .slice Aq (digs o.natAbs).length cq]
  have hoq2 := (hoq.le (base' := w.heap.size) hbase).alloc (.cells #[.bool (decide (o < 0)), .slice Aq (digs o.natAbs).length cq] 27)
  have h2 := Below.step h (below_alloc1 w2 (.cells #[.bool (decide (o < 0)), .slice Aq (digs o.natAbs).length cq] 27))
  have hx2 := hx0.kept (below_alloc1 w2 (.cells #[.bool (decide (o < 0)), .slice Aq (digs o.natAbs).length cq] 27))
  have hxr2 := hxr.kept (below_alloc1 w2 (.cells #[.bool (decide (o < 0)), .slice Aq (digs o.natAbs).length cq] 27))
  rw [← e0] at hx2
  rw [← er] at hxr2
  replace hoq2 := Lib.hid hoq2
  go_wp2_with fail
  rw [← eg] at hyx ⊢
  rw [← er, ← e0]
  clear eg h hoq hx0 hxr ahx0 bhx0 lhx0 ahxr bhxr lhxr e0 er
  generalize w2.alloc (.cells #[.bool (decide (o < 0)), .slice Aq (digs o.natAbs).length cq] 27) = w3 at *
  go_loopg [7] n (fun g i wr => ∃ (k : Nat) (p : Int) (A : Option Addr) (c : Nat), k ≤ n ∧ g = n - k ∧ i = .int .i64 k ∧ Hid (p = num neg0 xs0 ^ k ∧ (digs p.natAbs).length ≤ 400) ∧ Hid (Own wr w.heap.size (.slice A (digs p.natAbs).length c) (digs p.natAbs)) ∧ Box wr gx 27 #[.bool (decide (p < 0)), .slice A (digs p.natAbs).length c] ∧ Box wr g0 27 #[.bool neg0, .slice A0 xs0.length c0] ∧ Box wr gr 27 #[.bool false, .slice none 0 0] ∧ Below w.heap.size w wr)
  case atStart => exact ⟨0, o, Aq, cq, by omega, rfl, rfl, ⟨by rw [ho.out, Int.pow_zero], by rw [ho.out]; have := digs_len_all (k := 1) (n := (1 : Int).natAbs) (by decide); omega⟩, hoq2, hyx, hx2, hxr2, h2⟩
  case round =>
    clear hoq2 hyx hx2 hxr2 h2
    obtain ⟨k, p, A, c, hk, rfl, rfl, hp, hoq, hyx, hx0, hxr, h⟩ := hrel
    obtain ⟨k0, k1⟩ := hyx.two
    obtain ⟨k2, k3⟩ := hx0.two
    obtain ⟨k6, k7⟩ := hxr.two
    by_cases hlt : k < n
    · obtain ⟨y, hy⟩ : ∃ y, y = num neg0 xs0 ^ (k + 1) := ⟨_, rfl⟩
      have cm := bgMul_any (decide (p < 0)) A _ c (digs p.natAbs) neg0 A0 _ c0 xs0 wr hp.out.2 l0 hoq.out.rd (_hr0.kept h) (digs_rng _) hg0.rng y (by rw [digs_neg p _ (digs_rng _) (by rw [digs_val]), hp.out.1, hy, Int.pow_succ])
      replace cm := Lib.hid cm
      replace hy := Lib.hid hy
      go_wp2_with fail
      refine (cm.out).mono ?_
      rintro e w5 ⟨D, d, rfl, hod, hb⟩
      have hyx2 := hyx.kept hb
      have hx02 := hx0.kept hb
      have hxr2 := hxr.kept hb
      have hod2 := hod.le (base' := w.heap.size) h.size
      have h5 := Below.step h hb
      have k4 := hyx2.free 0
      have k5 := hyx2.free 1
      obtain ⟨k8, k9⟩ := hyx2.two
      have hod3 : Own ((w5.setCell ⟨gx, 0, none⟩ (.bool (decide (y < 0)))).setCell ⟨gx, 1, none⟩ (.slice D (digs y.natAbs).length d)) w.heap.size (.slice D (digs y.natAbs).length d) (digs y.natAbs) := (hod2.set_box hyx2 (by decide)).set_box (hyx2.set 0 _) (by decide)
      have hyx3 : Box ((w5.setCell ⟨gx, 0, none⟩ (.bool (decide (y < 0)))).setCell ⟨gx, 1, none⟩ (.slice D (digs y.natAbs).length d)) gx 27 #[.bool (decide (y < 0)), .slice D (digs y.natAbs).length d] := (hyx2.set 0 _).set 1 _
      have hx03 : Box ((w5.setCell ⟨gx, 0, none⟩ (.bool (decide (y < 0)))).setCell ⟨gx, 1, none⟩ (.slice D (digs y.natAbs).length d)) g0 27 #[.bool neg0, .slice A0 xs0.length c0] := (hx02.far (p := ⟨gx, 0, none⟩) n0 _).far (p := ⟨gx, 1, none⟩) n0 _
      have hxr3 : Box ((w5.setCell ⟨gx, 0, none⟩ (.bool (decide (y < 0)))).setCell ⟨gx, 1, none⟩ (.slice D (digs y.natAbs).length d)) gr 27 #[.bool false, .slice none 0 0] := (hxr2.far (p := ⟨gx, 0, none⟩) n1 _).far (p := ⟨gx, 1, none⟩) n1 _
      have h6 : Below w.heap.size w ((w5.setCell ⟨gx, 0, none⟩ (.bool (decide (y < 0)))).setCell ⟨gx, 1, none⟩ (.slice D (digs y.natAbs).length d)) := (h5.setCell hgx _).setCell hgx _
      clear hb k0 k1 k2 k3 k6 k7 hod hod2 hx0 hxr hyx h
      replace hod3 := Lib.hid hod3
      by_cases hf : (digs y.natAbs).length ≤ 400
      · have cg := Lib.hid (bgGood_yes _ D _ d (digs y.natAbs) _ hod3.out.rd (good_num y hf))
        go_wp2_with fail
        refine (cg.out).mono ?_
        rintro e w6 ⟨rfl, hb⟩
        have h7 := Below.step h6 hb
        have hod4 : Hid (Own w6 w.heap.size (.slice D (digs y.natAbs).length d) (digs y.natAbs)) := hod3.out.kept hb
        have hyx4 := hyx3.kept hb
        have hx04 := hx03.kept hb
        have hxr4 := hxr3.kept hb
        have hyf : Hid (y = num neg0 xs0 ^ (k + 1) ∧ (digs y.natAbs).length ≤ 400) := ⟨hy.out, hf⟩
        clear hb
        go_wp2_with fail
        go_roundg (n - (k + 1))
        case measure => omega
        case rel => exact ⟨k + 1, y, D, d, by omega, rfl, by go_num, hyf, hod4, hyx4, hx04, hxr4, h7⟩
      · have cg := Lib.hid (bgGood_no _ D _ d (digs y.natAbs) _ hod3.out.len hod3.out.rd (not_good_num hf))
        have hnz : Hid (¬ (digs z.natAbs).length ≤ 400) := by rw [hz.out]; exact pow_long (k := k + 1) (by omega) (by rw [← hy.out]; exact hf)
        go_wp2_with fail
        refine (cg.out).mono ?_
        rintro e w6 ⟨rfl, hb⟩
        have h7 := Below.step h6 hb
        have hxr4 := hxr3.kept hb
        obtain ⟨k6, k7⟩ := hxr4.two
        have f0 := hxr4.free 0
        have f1 := hxr4.free 1
        clear hb
        go_wp2_with fail
        refine bodyPost_ret (v := .tuple #[.agg #[.bool false, .slice none 0 0], .bool false]) (by simp [results, Try.results37, go_sem, k6, k7]) rfl ?_
        exact res_no hnz.out ⟨none, 0, rfl, World.ownsRow_nil _ _ _ _, (h7.setCell hgr _).setCell hgr _⟩
    · obtain rfl : n = k := by omega
      have hpz : Hid (p = z) := by show p = z; rw [hz.out]; exact hp.out.1
      have f0 := hxr.free 0
      have f1 := hxr.free 1
      go_wp2_with fail
      refine bodyPost_ret (v := .tuple #[.agg #[.bool (decide (p < 0)), .slice A (digs p.natAbs).length c], .bool true]) (by simp [results, Try.results37, go_sem, k6, k7]) rfl ?_
      rw [← hpz.out]
      exact res_yes hp.out.2 ⟨A, c, rfl, (hoq.out.set_box hxr (by decide)).set_box (hxr.set 0 _) (by decide), (h.setCell hgr _).setCell hgr _⟩

end Go.Proofs.Ytlkdelhmjjnnnaa
