/- AddWholes and SubtractWholes: the model's and the program's. -/
import Derived.Test.YtlkdelhmjjnnnaaAdd
import Derived.Test.YtlkdelhmjjnnnaaLawAddWholes
import Derived.Test.YtlkdelhmjjnnnaaLawSubtractWholes
namespace Go.Proofs.Ytlkdelhmjjnnnaa
open Go.RowKit Go.Joins

theorem Good.trimmed {neg : Bool} {xs : List Int} (h : Good neg xs) : Trimmed xs := h.2.2.2
theorem Good.rng {neg : Bool} {xs : List Int} (h : Good neg xs) : Rng 0 9999 xs := h.2.1
theorem Good.len {neg : Bool} {xs : List Int} (h : Good neg xs) : xs.length ≤ 400 := h.1
theorem num_not {neg : Bool} {xs : List Int} : num (!neg) xs = -num neg xs := by unfold num; cases neg <;> simp
theorem Own.len {w : World} {base n c : Nat} {A : Option Addr} {xs : List Int} (h : Own w base (.slice A n c) xs) : n ≤ 9223372036854775807 := by
  rcases h.2 with ⟨he, _⟩ | ⟨g, cap, cur, he, _, _, hnc, hcm, _⟩
  · simp only [Value.slice.injEq] at he; omega
  · simp only [Value.slice.injEq] at he; unfold maxLen at hcm; omega
theorem not_good_num {z : Int} (h : ¬ (digs z.natAbs).length ≤ 400) : ¬ Good (decide (z < 0)) (digs z.natAbs) := fun g => h g.1
theorem digs_len_all {k : Nat} {n : Nat} (h : n < 10000 ^ k) : (digs n).length ≤ k := digs_len h
theorem val_lt {xs : List Int} (h : Rng 0 9999 xs) : (val xs).toNat < 10000 ^ xs.length := by
  induction xs with
  | nil => simp [val_nil]
  | cons x xs ih =>
    have h1 := ih h.tail
    have h2 := h.head
    have h3 := val_nonneg h.tail
    rw [val_cons, List.length_cons, Nat.pow_succ]
    omega

theorem Own.set_box {w : World} {base g i : Nat} {t : TypeId} {cs : Array Value} {v u : Value} {xs : List Int} (h : Own w base v xs) (hb : Box w g t cs) (ht : t ≠ 3) : Own (w.setCell ⟨g, i, none⟩ u) base v xs := by
  refine ownsRow_setCell_other h (fun e => ?_) u
  rcases h.2 with ⟨rfl, _⟩ | ⟨g', cap, cur, rfl, _, hh, _⟩
  · simp [Value.ownBlock] at e
  · have e2 : g' = g := by simpa [Value.ownBlock] using e
    subst e2
    unfold Box at hb
    rw [hb] at hh
    injection hh with hh
    injection hh with _ hh
    exact ht hh

set_option maxHeartbeats 1000000 in
theorem bgMinus_any (neg0 : Bool) (A0 : Option Addr) (c0 : Nat) (xs0 : List Int) (w : World) (hl0 : xs0.length ≤ 500) (hcap : xs0.length ≤ c0) (hr0 : Rd w w.heap.size A0 xs0.length xs0) (hg0 : Rng 0 9999 xs0) :
    Calls Try.prog 76 #[.agg #[.bool neg0, .slice A0 xs0.length c0]] w (GivesNum w (-num neg0 xs0)) := by
  have h := Below.refl w.heap.size w
  have hA := below_alloc1 w (.cells #[.bool neg0, .slice A0 xs0.length c0] 27)
  replace h := Below.step h hA
  have hx0 := Box.new w 27 #[.bool neg0, .slice A0 xs0.length c0]
  clear hA
  have hA := below_alloc1 (w.alloc (.cells #[.bool neg0, .slice A0 xs0.length c0] 27)) (.cells #[.bool false, .slice none 0 0] 27)
  replace h := Below.step h hA
  replace hx0 := hx0.kept hA
  have hxr := Box.new (w.alloc (.cells #[.bool neg0, .slice A0 xs0.length c0] 27)) 27 #[.bool false, .slice none 0 0]
  rw [show (w.alloc (.cells #[.bool neg0, .slice A0 xs0.length c0] 27)).heap.size = w.heap.size + 1 from by simp] at hxr
  clear hA
  have hne := @num_not neg0 xs0
  go_enter Try.func76, Try.ntmps76
  go_wp2_with fail
  refine (bgMake_any (!neg0) A0 _ c0 xs0 _ (by omega) hcap (hr0.kept h) hg0).mono ?_
  rw [hne]
  rintro e w1 ⟨Ar, cr, rfl, hor, hb⟩
  replace h := Below.step h hb
  replace hx0 := hx0.kept hb
  replace hxr := hxr.kept hb
  clear hb
  obtain ⟨ahx0, bhx0⟩ := hx0.two
  have lhx0 := hx0.lt
  obtain ⟨ahxr, bhxr⟩ := hxr.two
  have lhxr := hxr.lt
  have f0 := hxr.free 0
  have f1 := hxr.free 1
  go_wp2_with fail
  refine bodyPost_ret (v := .agg #[.bool (decide ((-num neg0 xs0) < 0)), .slice Ar (digs ((-num neg0 xs0)).natAbs).length cr]) (by simp [results, Try.results76, go_sem, ahxr, bhxr]) rfl ⟨Ar, cr, rfl, ?_, ?_⟩
  · exact ((hor.set_below (by simp) _).set_below (by simp) _).le (by simp; omega)
  · exact (h.setCell (by first | (simp; done) | (simp; omega)) _).setCell (by first | (simp; done) | (simp; omega)) _

set_option maxHeartbeats 1000000 in
theorem bgIf_any (z : Int) (A0 : Option Addr) (c0 base : Nat) (w : World) (hl : (digs z.natAbs).length ≤ 9223372036854775807) (ho : Own w base (.slice A0 (digs z.natAbs).length c0) (digs z.natAbs)) :
    Calls Try.prog 50 #[.agg #[.bool (decide (z < 0)), .slice A0 (digs z.natAbs).length c0]] w (GivesRes w base z) := by
  have hrd := ho.rd
  have h := Below.refl w.heap.size w
  have hA := below_alloc1 w (.cells #[.bool (decide (z < 0)), .slice A0 (digs z.natAbs).length c0] 27)
  replace h := Below.step h hA
  have hx0 := Box.new w 27 #[.bool (decide (z < 0)), .slice A0 (digs z.natAbs).length c0]
  clear hA
  have hA := below_alloc1 (w.alloc (.cells #[.bool (decide (z < 0)), .slice A0 (digs z.natAbs).length c0] 27)) (.cells #[.bool false, .slice none 0 0] 27)
  replace h := Below.step h hA
  replace hx0 := hx0.kept hA
  have hxr := Box.new (w.alloc (.cells #[.bool (decide (z < 0)), .slice A0 (digs z.natAbs).length c0] 27)) 27 #[.bool false, .slice none 0 0]
  rw [show (w.alloc (.cells #[.bool (decide (z < 0)), .slice A0 (digs z.natAbs).length c0] 27)).heap.size = w.heap.size + 1 from by simp] at hxr
  clear hA
  replace ho := ho.kept h
  by_cases hs : (digs z.natAbs).length ≤ 400
  · have er : GivesRes w base z = GivesOkAt w base (decide (z < 0)) (digs z.natAbs) true := by
      show GivesOkAt w base (resNeg _) (resDigs _) (resOk _) = _
      unfold resNeg resDigs resOk
      rw [if_pos hs, if_pos hs, decide_eq_true hs]
    rw [er]
    clear er
    go_enter Try.func50, Try.ntmps50
    go_wp2_with fail
    refine (bgGood_yes _ A0 _ c0 _ _ (hrd.kept h) (good_num z hs)).mono ?_
    rintro e w1 ⟨rfl, hb⟩
    replace h := Below.step h hb
    replace hx0 := hx0.kept hb
    replace hxr := hxr.kept hb
    replace ho := ho.kept hb
    clear hb
    obtain ⟨ahx0, bhx0⟩ := hx0.two
    have lhx0 := hx0.lt
    obtain ⟨ahxr, bhxr⟩ := hxr.two
    have lhxr := hxr.lt
    have f0 := hxr.free 0
    have f1 := hxr.free 1
    go_wp2_with fail
    refine bodyPost_ret (v := .tuple #[.agg #[.bool (decide (z < 0)), .slice A0 (digs z.natAbs).length c0], .bool true]) (by simp [results, Try.results50, go_sem, ahxr, bhxr]) rfl ⟨A0, c0, rfl, ?_, ?_⟩
    · exact (ho.set_box hxr (by decide)).set_box (hxr.set 0 _) (by decide)
    · exact (h.setCell (by first | (simp; done) | (simp; omega)) _).setCell (by first | (simp; done) | (simp; omega)) _
  · have er : GivesRes w base z = GivesOkAt w base false [] false := by
      show GivesOkAt w base (resNeg _) (resDigs _) (resOk _) = _
      unfold resNeg resDigs resOk
      rw [if_neg hs, if_neg hs, decide_eq_false hs]
    rw [er]
    clear er
    go_enter Try.func50, Try.ntmps50
    go_wp2_with fail
    refine (bgGood_no _ A0 _ c0 _ _ hl (hrd.kept h) (not_good_num hs)).mono ?_
    rintro e w1 ⟨rfl, hb⟩
    replace h := Below.step h hb
    replace hx0 := hx0.kept hb
    replace hxr := hxr.kept hb
    replace ho := ho.kept hb
    clear hb
    obtain ⟨ahx0, bhx0⟩ := hx0.two
    have lhx0 := hx0.lt
    obtain ⟨ahxr, bhxr⟩ := hxr.two
    have lhxr := hxr.lt
    have f0 := hxr.free 0
    have f1 := hxr.free 1
    go_wp2_with fail
    refine bodyPost_ret (v := .tuple #[.agg #[.bool false, .slice none 0 0], .bool false]) (by simp [results, Try.results50, go_sem, ahxr, bhxr]) rfl ⟨none, 0, rfl, World.ownsRow_nil _ _ _ _, ?_⟩
    exact (h.setCell (by first | (simp; done) | (simp; omega)) _).setCell (by first | (simp; done) | (simp; omega)) _

set_option maxHeartbeats 4000000 in
set_option maxRecDepth 100000 in
theorem bgSub_any (neg0 : Bool) (A0 : Option Addr) (c0 : Nat) (xs0 : List Int) (neg1 : Bool) (A1 : Option Addr) (c1 : Nat) (xs1 : List Int) (w : World) (_hl0 : xs0.length ≤ 500) (_hr0 : Rd w w.heap.size A0 xs0.length xs0) (_hl1 : xs1.length ≤ 500) (hc1 : xs1.length ≤ c1) (_hr1 : Rd w w.heap.size A1 xs1.length xs1) (hg0x : Rng 0 9999 xs0) (hg1x : Rng 0 9999 xs1) :
    ∀ z, z = num neg0 xs0 - num neg1 xs1 → Calls Try.prog 53 #[.agg #[.bool neg0, .slice A0 xs0.length c0], .agg #[.bool neg1, .slice A1 xs1.length c1]] w (GivesNum w z) := by
  intro z hz
  obtain ⟨y, hy⟩ : ∃ y, y = -num neg1 xs1 := ⟨_, rfl⟩
  have h : Below w.heap.size w (((w.alloc (.cells #[.bool neg0, .slice A0 xs0.length c0] 27)).alloc (.cells #[.bool neg1, .slice A1 xs1.length c1] 27)).alloc (.cells #[.bool false, .slice none 0 0] 27)) := below_alloc3 _ _ _ _
  have hx0 : Box (((w.alloc (.cells #[.bool neg0, .slice A0 xs0.length c0] 27)).alloc (.cells #[.bool neg1, .slice A1 xs1.length c1] 27)).alloc (.cells #[.bool false, .slice none 0 0] 27)) w.heap.size 27 #[.bool neg0, .slice A0 xs0.length c0] := (Box.new _ _ _).kept (below_alloc2 _ _ _)
  have hx1 : Box (((w.alloc (.cells #[.bool neg0, .slice A0 xs0.length c0] 27)).alloc (.cells #[.bool neg1, .slice A1 xs1.length c1] 27)).alloc (.cells #[.bool false, .slice none 0 0] 27)) (w.heap.size + 1) 27 #[.bool neg1, .slice A1 xs1.length c1] := by
    have := (Box.new (w.alloc (.cells #[.bool neg0, .slice A0 xs0.length c0] 27)) 27 #[.bool neg1, .slice A1 xs1.length c1]).kept (below_alloc1 _ (.cells #[.bool false, .slice none 0 0] 27))
    simpa using this
  have hxr : Box (((w.alloc (.cells #[.bool neg0, .slice A0 xs0.length c0] 27)).alloc (.cells #[.bool neg1, .slice A1 xs1.length c1] 27)).alloc (.cells #[.bool false, .slice none 0 0] 27)) (w.heap.size + 1 + 1) 27 #[.bool false, .slice none 0 0] := by
    have := Box.new ((w.alloc (.cells #[.bool neg0, .slice A0 xs0.length c0] 27)).alloc (.cells #[.bool neg1, .slice A1 xs1.length c1] 27)) 27 #[.bool false, .slice none 0 0]
    simpa using this
  obtain ⟨g0, e0⟩ : ∃ g, g = w.heap.size := ⟨_, rfl⟩
  obtain ⟨g1, e1⟩ : ∃ g, g = w.heap.size + 1 := ⟨_, rfl⟩
  obtain ⟨gr, er⟩ : ∃ g, g = w.heap.size + 1 + 1 := ⟨_, rfl⟩
  have n0 : g0 ≠ gr := by omega
  have n1 : g1 ≠ gr := by omega
  have n01 : g0 ≠ g1 := by omega
  have hgr : w.heap.size ≤ gr := by omega
  have hg0 : w.heap.size ≤ g0 := by omega
  have hg1 : w.heap.size ≤ g1 := by omega
  rw [← er] at hxr
  rw [← e1] at hx1
  rw [← e0] at hx0
  have v1 := val_nonneg hg1x
  have hlm : (digs y.natAbs).length ≤ 500 := by
    have h1 := val_lt hg1x
    have h2 : y.natAbs = (val xs1).toNat := by rw [hy]; unfold num; cases neg1 <;> simp <;> omega
    rw [h2]
    have := digs_len_all h1
    omega
  have hnm : num neg0 xs0 + num (decide (y < 0)) (digs y.natAbs) = z := by rw [digs_neg y _ (digs_rng _) (by rw [digs_val]), hz, hy]; omega
  have hnm' := Lib.hid hnm
  have hy' := Lib.hid hy
  clear hnm hy hz
  go_enter Try.func53, Try.ntmps53
  go_wp2_with fail
  rw [← er, ← e1, ← e0]
  clear e0 e1 er
  generalize (((w.alloc (.cells #[.bool neg0, .slice A0 xs0.length c0] 27)).alloc (.cells #[.bool neg1, .slice A1 xs1.length c1] 27)).alloc (.cells #[.bool false, .slice none 0 0] 27)) = w0 at *
  obtain ⟨k00, k01⟩ := hx0.two
  obtain ⟨k10, k11⟩ := hx1.two
  have KS : ∀ (W : World) (i j : Nat) (u v : Value), (W.cell? ⟨g0, 0, none⟩ = some (.bool neg0) ∧ W.cell? ⟨g0, 1, none⟩ = some (.slice A0 xs0.length c0) ∧ W.cell? ⟨g1, 0, none⟩ = some (.bool neg1) ∧ W.cell? ⟨g1, 1, none⟩ = some (.slice A1 xs1.length c1) ∧ Below w.heap.size w W) → (((W.setCell ⟨gr, i, none⟩ u).setCell ⟨gr, j, none⟩ v).cell? ⟨g0, 0, none⟩ = some (.bool neg0) ∧ ((W.setCell ⟨gr, i, none⟩ u).setCell ⟨gr, j, none⟩ v).cell? ⟨g0, 1, none⟩ = some (.slice A0 xs0.length c0) ∧ ((W.setCell ⟨gr, i, none⟩ u).setCell ⟨gr, j, none⟩ v).cell? ⟨g1, 0, none⟩ = some (.bool neg1) ∧ ((W.setCell ⟨gr, i, none⟩ u).setCell ⟨gr, j, none⟩ v).cell? ⟨g1, 1, none⟩ = some (.slice A1 xs1.length c1) ∧ Below w.heap.size w ((W.setCell ⟨gr, i, none⟩ u).setCell ⟨gr, j, none⟩ v)) := fun W i j u v ⟨q0, q1, q2, q3, hW⟩ => ⟨(cell_far n0).trans ((cell_far n0).trans q0), (cell_far n0).trans ((cell_far n0).trans q1), (cell_far n1).trans ((cell_far n1).trans q2), (cell_far n1).trans ((cell_far n1).trans q3), (hW.setCell hgr _).setCell hgr _⟩
  have KC : ∀ (W W' : World), Below W.heap.size W W' → (W.cell? ⟨g0, 0, none⟩ = some (.bool neg0) ∧ W.cell? ⟨g0, 1, none⟩ = some (.slice A0 xs0.length c0) ∧ W.cell? ⟨g1, 0, none⟩ = some (.bool neg1) ∧ W.cell? ⟨g1, 1, none⟩ = some (.slice A1 xs1.length c1) ∧ Below w.heap.size w W) → (W'.cell? ⟨g0, 0, none⟩ = some (.bool neg0) ∧ W'.cell? ⟨g0, 1, none⟩ = some (.slice A0 xs0.length c0) ∧ W'.cell? ⟨g1, 0, none⟩ = some (.bool neg1) ∧ W'.cell? ⟨g1, 1, none⟩ = some (.slice A1 xs1.length c1) ∧ Below w.heap.size w W') := fun W W' hb ⟨q0, q1, q2, q3, hW⟩ => ⟨(hb.cell (p := ⟨g0, 0, none⟩) (World.block_lt_of_cell? W _ q0)).trans q0, (hb.cell (p := ⟨g0, 1, none⟩) (World.block_lt_of_cell? W _ q1)).trans q1, (hb.cell (p := ⟨g1, 0, none⟩) (World.block_lt_of_cell? W _ q2)).trans q2, (hb.cell (p := ⟨g1, 1, none⟩) (World.block_lt_of_cell? W _ q3)).trans q3, Below.step hW hb⟩
  have KB : ∀ (W : World), (W.cell? ⟨g0, 0, none⟩ = some (.bool neg0) ∧ W.cell? ⟨g0, 1, none⟩ = some (.slice A0 xs0.length c0) ∧ W.cell? ⟨g1, 0, none⟩ = some (.bool neg1) ∧ W.cell? ⟨g1, 1, none⟩ = some (.slice A1 xs1.length c1) ∧ Below w.heap.size w W) → Below w.heap.size w W := fun W ⟨_, _, _, _, hW⟩ => hW
  have KM0 : (World.drew w0).cell? ⟨g0, 0, none⟩ = some (.bool neg0) ∧ (World.drew w0).cell? ⟨g0, 1, none⟩ = some (.slice A0 xs0.length c0) ∧ (World.drew w0).cell? ⟨g1, 0, none⟩ = some (.bool neg1) ∧ (World.drew w0).cell? ⟨g1, 1, none⟩ = some (.slice A1 xs1.length c1) ∧ Below w.heap.size w (World.drew w0) := ⟨by assumption, by assumption, by assumption, by assumption, ⟨h.os, h.tape, h.output, h.size, h.block⟩⟩
  have hgt := hxr.lt
  replace KS := Lib.hid KS
  replace KC := Lib.hid KC
  replace KB := Lib.hid KB
  go_region_held3 (fun w' => w'.cell? ⟨g0, 0, none⟩ = some (.bool neg0) ∧ w'.cell? ⟨g0, 1, none⟩ = some (.slice A0 xs0.length c0) ∧ w'.cell? ⟨g1, 0, none⟩ = some (.bool neg1) ∧ w'.cell? ⟨g1, 1, none⟩ = some (.slice A1 xs1.length c1) ∧ Below w.heap.size w w') ((first | assumption | (apply KC.out; assumption; assumption) | (refine KS.out _ _ _ _ _ ?_; assumption)))
    (first
      | (go_at_call 51; (with_reducible refine (bgAdd_any neg0 A0 c0 xs0 _ _ _ _ _ ?_ ?_ ?_ ?_ ?_ ?_).mono ?_); (exact _hl0); (exact _hr0.kept (KB.out _ (by assumption))); (exact hlm); (exact hom.rd); (exact hg0x); (exact digs_rng _); (rw [hnm'.out]); rintro e wB ⟨Ar, cr, rfl, hor, hbB⟩; have hSB : wB.cell? ⟨g0, 0, none⟩ = some (.bool neg0) ∧ wB.cell? ⟨g0, 1, none⟩ = some (.slice A0 xs0.length c0) ∧ wB.cell? ⟨g1, 0, none⟩ = some (.bool neg1) ∧ wB.cell? ⟨g1, 1, none⟩ = some (.slice A1 xs1.length c1) ∧ Below w.heap.size w wB := KC.out _ _ hbB (by assumption); have hxB := (hxr.kept (w' := wA) ⟨hbA.os, hbA.tape, hbA.output, hbA.size, hbA.block⟩).kept hbB; obtain ⟨u0, u1⟩ := hxB.two; have u2 := hxB.free 0; have u3 := hxB.free 1)
      | (go_at_call 76; (with_reducible refine (bgMinus_any neg1 A1 c1 xs1 _ ?_ ?_ ?_ ?_).mono ?_); (exact _hl1); (exact hc1); (exact _hr1.kept (KB.out _ (by assumption))); (exact hg1x); (rw [← hy'.out]); rintro e wA ⟨Am, cm, rfl, hom, hbA⟩; have hSA : wA.cell? ⟨g0, 0, none⟩ = some (.bool neg0) ∧ wA.cell? ⟨g0, 1, none⟩ = some (.slice A0 xs0.length c0) ∧ wA.cell? ⟨g1, 0, none⟩ = some (.bool neg1) ∧ wA.cell? ⟨g1, 1, none⟩ = some (.slice A1 xs1.length c1) ∧ Below w.heap.size w wA := KC.out _ _ hbA (by assumption)))
  all_goals go_wp2_with fail
  refine bodyPost_ret (v := .agg #[.bool (decide (z < 0)), .slice Ar (digs z.natAbs).length cr]) (by simp [results, Try.results53, go_sem, u0, u1]) rfl ⟨Ar, cr, rfl, ?_, ?_⟩
  · have h6 := hbA.size
    have h8 := h.size
    (try simp at h6)
    exact ((hor.set_below (by show gr < _; first | omega | (simp; omega)) _).set_below (by show gr < _; first | omega | (simp; omega)) _).le (by first | omega | (simp; omega))
  · exact ((KB.out _ hSB).setCell hgr _).setCell hgr _

set_option maxHeartbeats 1000000 in
theorem addS_no1 (neg0 : Bool) (A0 : Option Addr) (c0 : Nat) (xs0 : List Int) (neg1 : Bool) (A1 : Option Addr) (c1 : Nat) (xs1 : List Int) (w : World) (_hl0 : xs0.length ≤ 1048576) (_hr0 : Rd w w.heap.size A0 xs0.length xs0) (_hl1 : xs1.length ≤ 1048576) (_hr1 : Rd w w.heap.size A1 xs1.length xs1)  (hg : ¬ Good neg0 xs0)  :
    Calls Try.prog 23 #[.agg #[.bool neg0, .slice A0 xs0.length c0], .agg #[.bool neg1, .slice A1 xs1.length c1]] w (GivesWholeOk w false [] false) := by
  have h := Below.refl w.heap.size w
  have hA := below_alloc1 w (.cells #[.bool neg0, .slice A0 xs0.length c0] 27)
  replace h := Below.step h hA
  have hx0 := Box.new w 27 #[.bool neg0, .slice A0 xs0.length c0]
  clear hA
  have hA := below_alloc1 (w.alloc (.cells #[.bool neg0, .slice A0 xs0.length c0] 27)) (.cells #[.bool neg1, .slice A1 xs1.length c1] 27)
  replace h := Below.step h hA
  replace hx0 := hx0.kept hA
  have hx1 := Box.new (w.alloc (.cells #[.bool neg0, .slice A0 xs0.length c0] 27)) 27 #[.bool neg1, .slice A1 xs1.length c1]
  rw [show (w.alloc (.cells #[.bool neg0, .slice A0 xs0.length c0] 27)).heap.size = w.heap.size + 1 from by simp] at hx1
  clear hA
  have hA := below_alloc1 ((w.alloc (.cells #[.bool neg0, .slice A0 xs0.length c0] 27)).alloc (.cells #[.bool neg1, .slice A1 xs1.length c1] 27)) (.cells #[.bool false, .slice none 0 0] 27)
  replace h := Below.step h hA
  replace hx0 := hx0.kept hA
  replace hx1 := hx1.kept hA
  have hxr := Box.new ((w.alloc (.cells #[.bool neg0, .slice A0 xs0.length c0] 27)).alloc (.cells #[.bool neg1, .slice A1 xs1.length c1] 27)) 27 #[.bool false, .slice none 0 0]
  rw [show ((w.alloc (.cells #[.bool neg0, .slice A0 xs0.length c0] 27)).alloc (.cells #[.bool neg1, .slice A1 xs1.length c1] 27)).heap.size = w.heap.size + 1 + 1 from by simp] at hxr
  clear hA
  go_enter Try.func23, Try.ntmps23
  go_wp2_with fail
  refine (bgGood_no neg0 A0 _ c0 xs0 _ (by omega) (_hr0.kept h) hg).mono ?_
  rintro e w1 ⟨rfl, hb⟩
  replace h := Below.step h hb
  replace hx0 := hx0.kept hb
  replace hx1 := hx1.kept hb
  replace hxr := hxr.kept hb
  clear hb
  obtain ⟨ahx0, bhx0⟩ := hx0.two
  have lhx0 := hx0.lt
  obtain ⟨ahx1, bhx1⟩ := hx1.two
  have lhx1 := hx1.lt
  obtain ⟨ahxr, bhxr⟩ := hxr.two
  have lhxr := hxr.lt
  have f0 := hxr.free 0
  have f1 := hxr.free 1
  go_wp2_with fail
  refine bodyPost_ret (v := .tuple #[.agg #[.bool false, .slice none 0 0], .bool false]) (by simp [results, Try.results23, go_sem, ahxr, bhxr]) rfl ⟨none, 0, rfl, World.ownsRow_nil _ _ _ _, ?_⟩
  exact (h.setCell (by first | (simp; done) | (simp; omega)) _).setCell (by first | (simp; done) | (simp; omega)) _

set_option maxHeartbeats 1000000 in
theorem addS_no2 (neg0 : Bool) (A0 : Option Addr) (c0 : Nat) (xs0 : List Int) (neg1 : Bool) (A1 : Option Addr) (c1 : Nat) (xs1 : List Int) (w : World) (_hl0 : xs0.length ≤ 1048576) (_hr0 : Rd w w.heap.size A0 xs0.length xs0) (_hl1 : xs1.length ≤ 1048576) (_hr1 : Rd w w.heap.size A1 xs1.length xs1) (hg0 : Good neg0 xs0) (hg : ¬ Good neg1 xs1)  :
    Calls Try.prog 23 #[.agg #[.bool neg0, .slice A0 xs0.length c0], .agg #[.bool neg1, .slice A1 xs1.length c1]] w (GivesWholeOk w false [] false) := by
  have h := Below.refl w.heap.size w
  have hA := below_alloc1 w (.cells #[.bool neg0, .slice A0 xs0.length c0] 27)
  replace h := Below.step h hA
  have hx0 := Box.new w 27 #[.bool neg0, .slice A0 xs0.length c0]
  clear hA
  have hA := below_alloc1 (w.alloc (.cells #[.bool neg0, .slice A0 xs0.length c0] 27)) (.cells #[.bool neg1, .slice A1 xs1.length c1] 27)
  replace h := Below.step h hA
  replace hx0 := hx0.kept hA
  have hx1 := Box.new (w.alloc (.cells #[.bool neg0, .slice A0 xs0.length c0] 27)) 27 #[.bool neg1, .slice A1 xs1.length c1]
  rw [show (w.alloc (.cells #[.bool neg0, .slice A0 xs0.length c0] 27)).heap.size = w.heap.size + 1 from by simp] at hx1
  clear hA
  have hA := below_alloc1 ((w.alloc (.cells #[.bool neg0, .slice A0 xs0.length c0] 27)).alloc (.cells #[.bool neg1, .slice A1 xs1.length c1] 27)) (.cells #[.bool false, .slice none 0 0] 27)
  replace h := Below.step h hA
  replace hx0 := hx0.kept hA
  replace hx1 := hx1.kept hA
  have hxr := Box.new ((w.alloc (.cells #[.bool neg0, .slice A0 xs0.length c0] 27)).alloc (.cells #[.bool neg1, .slice A1 xs1.length c1] 27)) 27 #[.bool false, .slice none 0 0]
  rw [show ((w.alloc (.cells #[.bool neg0, .slice A0 xs0.length c0] 27)).alloc (.cells #[.bool neg1, .slice A1 xs1.length c1] 27)).heap.size = w.heap.size + 1 + 1 from by simp] at hxr
  clear hA
  go_enter Try.func23, Try.ntmps23
  go_wp2_with fail
  refine (bgGood_yes neg0 A0 _ c0 xs0 _ (_hr0.kept h) hg0).mono ?_
  rintro e w1 ⟨rfl, hb⟩
  replace h := Below.step h hb
  replace hx0 := hx0.kept hb
  replace hx1 := hx1.kept hb
  replace hxr := hxr.kept hb
  clear hb
  obtain ⟨ahx0, bhx0⟩ := hx0.two
  have lhx0 := hx0.lt
  obtain ⟨ahx1, bhx1⟩ := hx1.two
  have lhx1 := hx1.lt
  obtain ⟨ahxr, bhxr⟩ := hxr.two
  have lhxr := hxr.lt
  go_wp2_with fail
  refine (bgGood_no neg1 A1 _ c1 xs1 _ (by omega) (_hr1.kept h) hg).mono ?_
  rintro e w2 ⟨rfl, hb⟩
  replace h := Below.step h hb
  replace hx0 := hx0.kept hb
  replace hx1 := hx1.kept hb
  replace hxr := hxr.kept hb
  clear hb ahx0 bhx0 lhx0 ahx1 bhx1 lhx1 ahxr bhxr lhxr
  obtain ⟨ahx0, bhx0⟩ := hx0.two
  have lhx0 := hx0.lt
  obtain ⟨ahx1, bhx1⟩ := hx1.two
  have lhx1 := hx1.lt
  obtain ⟨ahxr, bhxr⟩ := hxr.two
  have lhxr := hxr.lt
  have f0 := hxr.free 0
  have f1 := hxr.free 1
  go_wp2_with fail
  refine bodyPost_ret (v := .tuple #[.agg #[.bool false, .slice none 0 0], .bool false]) (by simp [results, Try.results23, go_sem, ahxr, bhxr]) rfl ⟨none, 0, rfl, World.ownsRow_nil _ _ _ _, ?_⟩
  exact (h.setCell (by first | (simp; done) | (simp; omega)) _).setCell (by first | (simp; done) | (simp; omega)) _

set_option maxHeartbeats 1000000 in
theorem addS_yes (neg0 : Bool) (A0 : Option Addr) (c0 : Nat) (xs0 : List Int) (neg1 : Bool) (A1 : Option Addr) (c1 : Nat) (xs1 : List Int) (w : World) (_hl0 : xs0.length ≤ 1048576) (_hr0 : Rd w w.heap.size A0 xs0.length xs0) (_hl1 : xs1.length ≤ 1048576) (_hr1 : Rd w w.heap.size A1 xs1.length xs1) (_hc1 : xs1.length ≤ c1) (hg0 : Good neg0 xs0) (hg1 : Good neg1 xs1) :
    ∀ z, z = num neg0 xs0 + num neg1 xs1 → Calls Try.prog 23 #[.agg #[.bool neg0, .slice A0 xs0.length c0], .agg #[.bool neg1, .slice A1 xs1.length c1]] w (GivesWholeOk w (resNeg z) (resDigs z) (resOk z)) := by
  intro z hz
  replace hz := Lib.hid hz
  have h := Below.refl w.heap.size w
  have hA := below_alloc1 w (.cells #[.bool neg0, .slice A0 xs0.length c0] 27)
  replace h := Below.step h hA
  have hx0 := Box.new w 27 #[.bool neg0, .slice A0 xs0.length c0]
  clear hA
  have hA := below_alloc1 (w.alloc (.cells #[.bool neg0, .slice A0 xs0.length c0] 27)) (.cells #[.bool neg1, .slice A1 xs1.length c1] 27)
  replace h := Below.step h hA
  replace hx0 := hx0.kept hA
  have hx1 := Box.new (w.alloc (.cells #[.bool neg0, .slice A0 xs0.length c0] 27)) 27 #[.bool neg1, .slice A1 xs1.length c1]
  rw [show (w.alloc (.cells #[.bool neg0, .slice A0 xs0.length c0] 27)).heap.size = w.heap.size + 1 from by simp] at hx1
  clear hA
  have hA := below_alloc1 ((w.alloc (.cells #[.bool neg0, .slice A0 xs0.length c0] 27)).alloc (.cells #[.bool neg1, .slice A1 xs1.length c1] 27)) (.cells #[.bool false, .slice none 0 0] 27)
  replace h := Below.step h hA
  replace hx0 := hx0.kept hA
  replace hx1 := hx1.kept hA
  have hxr := Box.new ((w.alloc (.cells #[.bool neg0, .slice A0 xs0.length c0] 27)).alloc (.cells #[.bool neg1, .slice A1 xs1.length c1] 27)) 27 #[.bool false, .slice none 0 0]
  rw [show ((w.alloc (.cells #[.bool neg0, .slice A0 xs0.length c0] 27)).alloc (.cells #[.bool neg1, .slice A1 xs1.length c1] 27)).heap.size = w.heap.size + 1 + 1 from by simp] at hxr
  clear hA
  have l0 := hg0.len
  have l1 := hg1.len
  go_enter Try.func23, Try.ntmps23
  go_wp2_with fail
  refine (bgGood_yes neg0 A0 _ c0 xs0 _ (_hr0.kept h) hg0).mono ?_
  rintro e w1 ⟨rfl, hb⟩
  replace h := Below.step h hb
  replace hx0 := hx0.kept hb
  replace hx1 := hx1.kept hb
  replace hxr := hxr.kept hb
  clear hb
  obtain ⟨ahx0, bhx0⟩ := hx0.two
  have lhx0 := hx0.lt
  obtain ⟨ahx1, bhx1⟩ := hx1.two
  have lhx1 := hx1.lt
  obtain ⟨ahxr, bhxr⟩ := hxr.two
  have lhxr := hxr.lt
  go_wp2_with fail
  refine (bgGood_yes neg1 A1 _ c1 xs1 _ (_hr1.kept h) hg1).mono ?_
  rintro e w2 ⟨rfl, hb⟩
  replace h := Below.step h hb
  replace hx0 := hx0.kept hb
  replace hx1 := hx1.kept hb
  replace hxr := hxr.kept hb
  clear hb ahx0 bhx0 lhx0 ahx1 bhx1 lhx1 ahxr bhxr lhxr
  obtain ⟨ahx0, bhx0⟩ := hx0.two
  have lhx0 := hx0.lt
  obtain ⟨ahx1, bhx1⟩ := hx1.two
  have lhx1 := hx1.lt
  obtain ⟨ahxr, bhxr⟩ := hxr.two
  have lhxr := hxr.lt
  go_wp2_with fail
  refine (bgAdd_any neg0 A0 c0 xs0 neg1 A1 c1 xs1 _ (by omega) (_hr0.kept h) (by omega) (_hr1.kept h) hg0.rng hg1.rng).mono ?_
  rw [← hz.out]
  rintro e w8 ⟨Am, cm, rfl, hom, hb⟩
  have hbase := h.size
  replace h := Below.step h hb
  replace hx0 := hx0.kept hb
  replace hx1 := hx1.kept hb
  replace hxr := hxr.kept hb
  clear hb ahx0 bhx0 lhx0 ahx1 bhx1 lhx1 ahxr bhxr lhxr
  obtain ⟨ahx0, bhx0⟩ := hx0.two
  have lhx0 := hx0.lt
  obtain ⟨ahx1, bhx1⟩ := hx1.two
  have lhx1 := hx1.lt
  obtain ⟨ahxr, bhxr⟩ := hxr.two
  have lhxr := hxr.lt
  go_wp2_with fail
  refine (bgIf_any z Am cm _ _ hom.len hom).mono ?_
  rintro e w9 ⟨Ar, cr, rfl, hor, hb⟩
  replace h := Below.step h hb
  replace hx0 := hx0.kept hb
  replace hx1 := hx1.kept hb
  replace hxr := hxr.kept hb
  clear hb ahx0 bhx0 lhx0 ahx1 bhx1 lhx1 ahxr bhxr lhxr
  obtain ⟨ahx0, bhx0⟩ := hx0.two
  have lhx0 := hx0.lt
  obtain ⟨ahx1, bhx1⟩ := hx1.two
  have lhx1 := hx1.lt
  obtain ⟨ahxr, bhxr⟩ := hxr.two
  have lhxr := hxr.lt
  have f0 := hxr.free 0
  have f1 := hxr.free 1
  go_wp2_with fail
  refine bodyPost_ret (v := .tuple #[.agg #[.bool (resNeg z), .slice Ar (resDigs z).length cr], .bool (resOk z)]) (by simp [results, Try.results23, go_sem, ahxr, bhxr]) rfl ⟨Ar, cr, rfl, ?_, ?_⟩
  · exact ((hor.set_box hxr (by decide)).set_box (hxr.set 0 _) (by decide)).le hbase
  · exact (h.setCell (by first | (simp; done) | (simp; omega)) _).setCell (by first | (simp; done) | (simp; omega)) _

set_option maxHeartbeats 1000000 in
theorem addI_no1 (neg0 : Bool) (A0 : Option Addr) (c0 : Nat) (xs0 : List Int) (neg1 : Bool) (A1 : Option Addr) (c1 : Nat) (xs1 : List Int) (w : World) (_hl0 : xs0.length ≤ 1048576) (_hr0 : Rd w w.heap.size A0 xs0.length xs0) (_hl1 : xs1.length ≤ 1048576) (_hr1 : Rd w w.heap.size A1 xs1.length xs1)  (hg : ¬ Good neg0 xs0)  :
    Calls Try.prog 24 #[.agg #[.bool neg0, .slice A0 xs0.length c0], .agg #[.bool neg1, .slice A1 xs1.length c1]] w (GivesWholeOk w false [] false) := by
  have h := Below.refl w.heap.size w
  have hA := below_alloc1 w (.cells #[.bool neg0, .slice A0 xs0.length c0] 27)
  replace h := Below.step h hA
  have hx0 := Box.new w 27 #[.bool neg0, .slice A0 xs0.length c0]
  clear hA
  have hA := below_alloc1 (w.alloc (.cells #[.bool neg0, .slice A0 xs0.length c0] 27)) (.cells #[.bool neg1, .slice A1 xs1.length c1] 27)
  replace h := Below.step h hA
  replace hx0 := hx0.kept hA
  have hx1 := Box.new (w.alloc (.cells #[.bool neg0, .slice A0 xs0.length c0] 27)) 27 #[.bool neg1, .slice A1 xs1.length c1]
  rw [show (w.alloc (.cells #[.bool neg0, .slice A0 xs0.length c0] 27)).heap.size = w.heap.size + 1 from by simp] at hx1
  clear hA
  have hA := below_alloc1 ((w.alloc (.cells #[.bool neg0, .slice A0 xs0.length c0] 27)).alloc (.cells #[.bool neg1, .slice A1 xs1.length c1] 27)) (.cells #[.bool false, .slice none 0 0] 27)
  replace h := Below.step h hA
  replace hx0 := hx0.kept hA
  replace hx1 := hx1.kept hA
  have hxr := Box.new ((w.alloc (.cells #[.bool neg0, .slice A0 xs0.length c0] 27)).alloc (.cells #[.bool neg1, .slice A1 xs1.length c1] 27)) 27 #[.bool false, .slice none 0 0]
  rw [show ((w.alloc (.cells #[.bool neg0, .slice A0 xs0.length c0] 27)).alloc (.cells #[.bool neg1, .slice A1 xs1.length c1] 27)).heap.size = w.heap.size + 1 + 1 from by simp] at hxr
  clear hA
  go_enter Try.func24, Try.ntmps24
  go_wp2_with fail
  refine (isWholeI_no neg0 A0 _ c0 xs0 _ (by omega) (_hr0.kept h) hg).mono ?_
  rintro e w1 ⟨rfl, hb⟩
  replace h := Below.step h hb
  replace hx0 := hx0.kept hb
  replace hx1 := hx1.kept hb
  replace hxr := hxr.kept hb
  clear hb
  obtain ⟨ahx0, bhx0⟩ := hx0.two
  have lhx0 := hx0.lt
  obtain ⟨ahx1, bhx1⟩ := hx1.two
  have lhx1 := hx1.lt
  obtain ⟨ahxr, bhxr⟩ := hxr.two
  have lhxr := hxr.lt
  have f0 := hxr.free 0
  have f1 := hxr.free 1
  go_wp2_with fail
  refine bodyPost_ret (v := .tuple #[.agg #[.bool false, .slice none 0 0], .bool false]) (by simp [results, Try.results24, go_sem, ahxr, bhxr]) rfl ⟨none, 0, rfl, World.ownsRow_nil _ _ _ _, ?_⟩
  exact (h.setCell (by first | (simp; done) | (simp; omega)) _).setCell (by first | (simp; done) | (simp; omega)) _

set_option maxHeartbeats 1000000 in
theorem addI_no2 (neg0 : Bool) (A0 : Option Addr) (c0 : Nat) (xs0 : List Int) (neg1 : Bool) (A1 : Option Addr) (c1 : Nat) (xs1 : List Int) (w : World) (_hl0 : xs0.length ≤ 1048576) (_hr0 : Rd w w.heap.size A0 xs0.length xs0) (_hl1 : xs1.length ≤ 1048576) (_hr1 : Rd w w.heap.size A1 xs1.length xs1) (hg0 : Good neg0 xs0) (hg : ¬ Good neg1 xs1)  :
    Calls Try.prog 24 #[.agg #[.bool neg0, .slice A0 xs0.length c0], .agg #[.bool neg1, .slice A1 xs1.length c1]] w (GivesWholeOk w false [] false) := by
  have h := Below.refl w.heap.size w
  have hA := below_alloc1 w (.cells #[.bool neg0, .slice A0 xs0.length c0] 27)
  replace h := Below.step h hA
  have hx0 := Box.new w 27 #[.bool neg0, .slice A0 xs0.length c0]
  clear hA
  have hA := below_alloc1 (w.alloc (.cells #[.bool neg0, .slice A0 xs0.length c0] 27)) (.cells #[.bool neg1, .slice A1 xs1.length c1] 27)
  replace h := Below.step h hA
  replace hx0 := hx0.kept hA
  have hx1 := Box.new (w.alloc (.cells #[.bool neg0, .slice A0 xs0.length c0] 27)) 27 #[.bool neg1, .slice A1 xs1.length c1]
  rw [show (w.alloc (.cells #[.bool neg0, .slice A0 xs0.length c0] 27)).heap.size = w.heap.size + 1 from by simp] at hx1
  clear hA
  have hA := below_alloc1 ((w.alloc (.cells #[.bool neg0, .slice A0 xs0.length c0] 27)).alloc (.cells #[.bool neg1, .slice A1 xs1.length c1] 27)) (.cells #[.bool false, .slice none 0 0] 27)
  replace h := Below.step h hA
  replace hx0 := hx0.kept hA
  replace hx1 := hx1.kept hA
  have hxr := Box.new ((w.alloc (.cells #[.bool neg0, .slice A0 xs0.length c0] 27)).alloc (.cells #[.bool neg1, .slice A1 xs1.length c1] 27)) 27 #[.bool false, .slice none 0 0]
  rw [show ((w.alloc (.cells #[.bool neg0, .slice A0 xs0.length c0] 27)).alloc (.cells #[.bool neg1, .slice A1 xs1.length c1] 27)).heap.size = w.heap.size + 1 + 1 from by simp] at hxr
  clear hA
  go_enter Try.func24, Try.ntmps24
  go_wp2_with fail
  refine (isWholeI_yes neg0 A0 _ c0 xs0 _ (_hr0.kept h) hg0).mono ?_
  rintro e w1 ⟨rfl, hb⟩
  replace h := Below.step h hb
  replace hx0 := hx0.kept hb
  replace hx1 := hx1.kept hb
  replace hxr := hxr.kept hb
  clear hb
  obtain ⟨ahx0, bhx0⟩ := hx0.two
  have lhx0 := hx0.lt
  obtain ⟨ahx1, bhx1⟩ := hx1.two
  have lhx1 := hx1.lt
  obtain ⟨ahxr, bhxr⟩ := hxr.two
  have lhxr := hxr.lt
  go_wp2_with fail
  refine (isWholeI_no neg1 A1 _ c1 xs1 _ (by omega) (_hr1.kept h) hg).mono ?_
  rintro e w2 ⟨rfl, hb⟩
  replace h := Below.step h hb
  replace hx0 := hx0.kept hb
  replace hx1 := hx1.kept hb
  replace hxr := hxr.kept hb
  clear hb ahx0 bhx0 lhx0 ahx1 bhx1 lhx1 ahxr bhxr lhxr
  obtain ⟨ahx0, bhx0⟩ := hx0.two
  have lhx0 := hx0.lt
  obtain ⟨ahx1, bhx1⟩ := hx1.two
  have lhx1 := hx1.lt
  obtain ⟨ahxr, bhxr⟩ := hxr.two
  have lhxr := hxr.lt
  have f0 := hxr.free 0
  have f1 := hxr.free 1
  go_wp2_with fail
  refine bodyPost_ret (v := .tuple #[.agg #[.bool false, .slice none 0 0], .bool false]) (by simp [results, Try.results24, go_sem, ahxr, bhxr]) rfl ⟨none, 0, rfl, World.ownsRow_nil _ _ _ _, ?_⟩
  exact (h.setCell (by first | (simp; done) | (simp; omega)) _).setCell (by first | (simp; done) | (simp; omega)) _

set_option maxHeartbeats 1000000 in
theorem addI_yes (neg0 : Bool) (A0 : Option Addr) (c0 : Nat) (xs0 : List Int) (neg1 : Bool) (A1 : Option Addr) (c1 : Nat) (xs1 : List Int) (w : World) (_hl0 : xs0.length ≤ 1048576) (_hr0 : Rd w w.heap.size A0 xs0.length xs0) (_hl1 : xs1.length ≤ 1048576) (_hr1 : Rd w w.heap.size A1 xs1.length xs1) (_hc1 : xs1.length ≤ c1) (hg0 : Good neg0 xs0) (hg1 : Good neg1 xs1) :
    ∀ z, z = num neg0 xs0 + num neg1 xs1 → Calls Try.prog 24 #[.agg #[.bool neg0, .slice A0 xs0.length c0], .agg #[.bool neg1, .slice A1 xs1.length c1]] w (GivesWholeOk w (resNeg z) (resDigs z) (resOk z)) := by
  intro z hz
  replace hz := Lib.hid hz
  have h := Below.refl w.heap.size w
  have hA := below_alloc1 w (.cells #[.bool neg0, .slice A0 xs0.length c0] 27)
  replace h := Below.step h hA
  have hx0 := Box.new w 27 #[.bool neg0, .slice A0 xs0.length c0]
  clear hA
  have hA := below_alloc1 (w.alloc (.cells #[.bool neg0, .slice A0 xs0.length c0] 27)) (.cells #[.bool neg1, .slice A1 xs1.length c1] 27)
  replace h := Below.step h hA
  replace hx0 := hx0.kept hA
  have hx1 := Box.new (w.alloc (.cells #[.bool neg0, .slice A0 xs0.length c0] 27)) 27 #[.bool neg1, .slice A1 xs1.length c1]
  rw [show (w.alloc (.cells #[.bool neg0, .slice A0 xs0.length c0] 27)).heap.size = w.heap.size + 1 from by simp] at hx1
  clear hA
  have hA := below_alloc1 ((w.alloc (.cells #[.bool neg0, .slice A0 xs0.length c0] 27)).alloc (.cells #[.bool neg1, .slice A1 xs1.length c1] 27)) (.cells #[.bool false, .slice none 0 0] 27)
  replace h := Below.step h hA
  replace hx0 := hx0.kept hA
  replace hx1 := hx1.kept hA
  have hxr := Box.new ((w.alloc (.cells #[.bool neg0, .slice A0 xs0.length c0] 27)).alloc (.cells #[.bool neg1, .slice A1 xs1.length c1] 27)) 27 #[.bool false, .slice none 0 0]
  rw [show ((w.alloc (.cells #[.bool neg0, .slice A0 xs0.length c0] 27)).alloc (.cells #[.bool neg1, .slice A1 xs1.length c1] 27)).heap.size = w.heap.size + 1 + 1 from by simp] at hxr
  clear hA
  have l0 := hg0.len
  have l1 := hg1.len
  go_enter Try.func24, Try.ntmps24
  go_wp2_with fail
  refine (isWholeI_yes neg0 A0 _ c0 xs0 _ (_hr0.kept h) hg0).mono ?_
  rintro e w1 ⟨rfl, hb⟩
  replace h := Below.step h hb
  replace hx0 := hx0.kept hb
  replace hx1 := hx1.kept hb
  replace hxr := hxr.kept hb
  clear hb
  obtain ⟨ahx0, bhx0⟩ := hx0.two
  have lhx0 := hx0.lt
  obtain ⟨ahx1, bhx1⟩ := hx1.two
  have lhx1 := hx1.lt
  obtain ⟨ahxr, bhxr⟩ := hxr.two
  have lhxr := hxr.lt
  go_wp2_with fail
  refine (isWholeI_yes neg1 A1 _ c1 xs1 _ (_hr1.kept h) hg1).mono ?_
  rintro e w2 ⟨rfl, hb⟩
  replace h := Below.step h hb
  replace hx0 := hx0.kept hb
  replace hx1 := hx1.kept hb
  replace hxr := hxr.kept hb
  clear hb ahx0 bhx0 lhx0 ahx1 bhx1 lhx1 ahxr bhxr lhxr
  obtain ⟨ahx0, bhx0⟩ := hx0.two
  have lhx0 := hx0.lt
  obtain ⟨ahx1, bhx1⟩ := hx1.two
  have lhx1 := hx1.lt
  obtain ⟨ahxr, bhxr⟩ := hxr.two
  have lhxr := hxr.lt
  go_wp2_with fail
  refine (addSigned_any neg0 A0 c0 xs0 neg1 A1 c1 xs1 _ (by omega) (_hr0.kept h) (by omega) (_hr1.kept h) hg0.rng hg1.rng hg0.trimmed hg1.trimmed).mono ?_
  rw [← hz.out]
  rintro e w9 ⟨Ar, cr, rfl, hor, hb⟩
  have hbase := h.size
  replace h := Below.step h hb
  replace hx0 := hx0.kept hb
  replace hx1 := hx1.kept hb
  replace hxr := hxr.kept hb
  clear hb ahx0 bhx0 lhx0 ahx1 bhx1 lhx1 ahxr bhxr lhxr
  obtain ⟨ahx0, bhx0⟩ := hx0.two
  have lhx0 := hx0.lt
  obtain ⟨ahx1, bhx1⟩ := hx1.two
  have lhx1 := hx1.lt
  obtain ⟨ahxr, bhxr⟩ := hxr.two
  have lhxr := hxr.lt
  have f0 := hxr.free 0
  have f1 := hxr.free 1
  go_wp2_with fail
  refine bodyPost_ret (v := .tuple #[.agg #[.bool (resNeg z), .slice Ar (resDigs z).length cr], .bool (resOk z)]) (by simp [results, Try.results24, go_sem, ahxr, bhxr]) rfl ⟨Ar, cr, rfl, ?_, ?_⟩
  · exact ((hor.set_box hxr (by decide)).set_box (hxr.set 0 _) (by decide)).le hbase
  · exact (h.setCell (by first | (simp; done) | (simp; omega)) _).setCell (by first | (simp; done) | (simp; omega)) _

set_option maxHeartbeats 1000000 in
theorem subS_no1 (neg0 : Bool) (A0 : Option Addr) (c0 : Nat) (xs0 : List Int) (neg1 : Bool) (A1 : Option Addr) (c1 : Nat) (xs1 : List Int) (w : World) (_hl0 : xs0.length ≤ 1048576) (_hr0 : Rd w w.heap.size A0 xs0.length xs0) (_hl1 : xs1.length ≤ 1048576) (_hr1 : Rd w w.heap.size A1 xs1.length xs1)  (hg : ¬ Good neg0 xs0)  :
    Calls Try.prog 25 #[.agg #[.bool neg0, .slice A0 xs0.length c0], .agg #[.bool neg1, .slice A1 xs1.length c1]] w (GivesWholeOk w false [] false) := by
  have h := Below.refl w.heap.size w
  have hA := below_alloc1 w (.cells #[.bool neg0, .slice A0 xs0.length c0] 27)
  replace h := Below.step h hA
  have hx0 := Box.new w 27 #[.bool neg0, .slice A0 xs0.length c0]
  clear hA
  have hA := below_alloc1 (w.alloc (.cells #[.bool neg0, .slice A0 xs0.length c0] 27)) (.cells #[.bool neg1, .slice A1 xs1.length c1] 27)
  replace h := Below.step h hA
  replace hx0 := hx0.kept hA
  have hx1 := Box.new (w.alloc (.cells #[.bool neg0, .slice A0 xs0.length c0] 27)) 27 #[.bool neg1, .slice A1 xs1.length c1]
  rw [show (w.alloc (.cells #[.bool neg0, .slice A0 xs0.length c0] 27)).heap.size = w.heap.size + 1 from by simp] at hx1
  clear hA
  have hA := below_alloc1 ((w.alloc (.cells #[.bool neg0, .slice A0 xs0.length c0] 27)).alloc (.cells #[.bool neg1, .slice A1 xs1.length c1] 27)) (.cells #[.bool false, .slice none 0 0] 27)
  replace h := Below.step h hA
  replace hx0 := hx0.kept hA
  replace hx1 := hx1.kept hA
  have hxr := Box.new ((w.alloc (.cells #[.bool neg0, .slice A0 xs0.length c0] 27)).alloc (.cells #[.bool neg1, .slice A1 xs1.length c1] 27)) 27 #[.bool false, .slice none 0 0]
  rw [show ((w.alloc (.cells #[.bool neg0, .slice A0 xs0.length c0] 27)).alloc (.cells #[.bool neg1, .slice A1 xs1.length c1] 27)).heap.size = w.heap.size + 1 + 1 from by simp] at hxr
  clear hA
  go_enter Try.func25, Try.ntmps25
  go_wp2_with fail
  refine (bgGood_no neg0 A0 _ c0 xs0 _ (by omega) (_hr0.kept h) hg).mono ?_
  rintro e w1 ⟨rfl, hb⟩
  replace h := Below.step h hb
  replace hx0 := hx0.kept hb
  replace hx1 := hx1.kept hb
  replace hxr := hxr.kept hb
  clear hb
  obtain ⟨ahx0, bhx0⟩ := hx0.two
  have lhx0 := hx0.lt
  obtain ⟨ahx1, bhx1⟩ := hx1.two
  have lhx1 := hx1.lt
  obtain ⟨ahxr, bhxr⟩ := hxr.two
  have lhxr := hxr.lt
  have f0 := hxr.free 0
  have f1 := hxr.free 1
  go_wp2_with fail
  refine bodyPost_ret (v := .tuple #[.agg #[.bool false, .slice none 0 0], .bool false]) (by simp [results, Try.results25, go_sem, ahxr, bhxr]) rfl ⟨none, 0, rfl, World.ownsRow_nil _ _ _ _, ?_⟩
  exact (h.setCell (by first | (simp; done) | (simp; omega)) _).setCell (by first | (simp; done) | (simp; omega)) _

set_option maxHeartbeats 1000000 in
theorem subS_no2 (neg0 : Bool) (A0 : Option Addr) (c0 : Nat) (xs0 : List Int) (neg1 : Bool) (A1 : Option Addr) (c1 : Nat) (xs1 : List Int) (w : World) (_hl0 : xs0.length ≤ 1048576) (_hr0 : Rd w w.heap.size A0 xs0.length xs0) (_hl1 : xs1.length ≤ 1048576) (_hr1 : Rd w w.heap.size A1 xs1.length xs1) (hg0 : Good neg0 xs0) (hg : ¬ Good neg1 xs1)  :
    Calls Try.prog 25 #[.agg #[.bool neg0, .slice A0 xs0.length c0], .agg #[.bool neg1, .slice A1 xs1.length c1]] w (GivesWholeOk w false [] false) := by
  have h := Below.refl w.heap.size w
  have hA := below_alloc1 w (.cells #[.bool neg0, .slice A0 xs0.length c0] 27)
  replace h := Below.step h hA
  have hx0 := Box.new w 27 #[.bool neg0, .slice A0 xs0.length c0]
  clear hA
  have hA := below_alloc1 (w.alloc (.cells #[.bool neg0, .slice A0 xs0.length c0] 27)) (.cells #[.bool neg1, .slice A1 xs1.length c1] 27)
  replace h := Below.step h hA
  replace hx0 := hx0.kept hA
  have hx1 := Box.new (w.alloc (.cells #[.bool neg0, .slice A0 xs0.length c0] 27)) 27 #[.bool neg1, .slice A1 xs1.length c1]
  rw [show (w.alloc (.cells #[.bool neg0, .slice A0 xs0.length c0] 27)).heap.size = w.heap.size + 1 from by simp] at hx1
  clear hA
  have hA := below_alloc1 ((w.alloc (.cells #[.bool neg0, .slice A0 xs0.length c0] 27)).alloc (.cells #[.bool neg1, .slice A1 xs1.length c1] 27)) (.cells #[.bool false, .slice none 0 0] 27)
  replace h := Below.step h hA
  replace hx0 := hx0.kept hA
  replace hx1 := hx1.kept hA
  have hxr := Box.new ((w.alloc (.cells #[.bool neg0, .slice A0 xs0.length c0] 27)).alloc (.cells #[.bool neg1, .slice A1 xs1.length c1] 27)) 27 #[.bool false, .slice none 0 0]
  rw [show ((w.alloc (.cells #[.bool neg0, .slice A0 xs0.length c0] 27)).alloc (.cells #[.bool neg1, .slice A1 xs1.length c1] 27)).heap.size = w.heap.size + 1 + 1 from by simp] at hxr
  clear hA
  go_enter Try.func25, Try.ntmps25
  go_wp2_with fail
  refine (bgGood_yes neg0 A0 _ c0 xs0 _ (_hr0.kept h) hg0).mono ?_
  rintro e w1 ⟨rfl, hb⟩
  replace h := Below.step h hb
  replace hx0 := hx0.kept hb
  replace hx1 := hx1.kept hb
  replace hxr := hxr.kept hb
  clear hb
  obtain ⟨ahx0, bhx0⟩ := hx0.two
  have lhx0 := hx0.lt
  obtain ⟨ahx1, bhx1⟩ := hx1.two
  have lhx1 := hx1.lt
  obtain ⟨ahxr, bhxr⟩ := hxr.two
  have lhxr := hxr.lt
  go_wp2_with fail
  refine (bgGood_no neg1 A1 _ c1 xs1 _ (by omega) (_hr1.kept h) hg).mono ?_
  rintro e w2 ⟨rfl, hb⟩
  replace h := Below.step h hb
  replace hx0 := hx0.kept hb
  replace hx1 := hx1.kept hb
  replace hxr := hxr.kept hb
  clear hb ahx0 bhx0 lhx0 ahx1 bhx1 lhx1 ahxr bhxr lhxr
  obtain ⟨ahx0, bhx0⟩ := hx0.two
  have lhx0 := hx0.lt
  obtain ⟨ahx1, bhx1⟩ := hx1.two
  have lhx1 := hx1.lt
  obtain ⟨ahxr, bhxr⟩ := hxr.two
  have lhxr := hxr.lt
  have f0 := hxr.free 0
  have f1 := hxr.free 1
  go_wp2_with fail
  refine bodyPost_ret (v := .tuple #[.agg #[.bool false, .slice none 0 0], .bool false]) (by simp [results, Try.results25, go_sem, ahxr, bhxr]) rfl ⟨none, 0, rfl, World.ownsRow_nil _ _ _ _, ?_⟩
  exact (h.setCell (by first | (simp; done) | (simp; omega)) _).setCell (by first | (simp; done) | (simp; omega)) _

set_option maxHeartbeats 1000000 in
theorem subS_yes (neg0 : Bool) (A0 : Option Addr) (c0 : Nat) (xs0 : List Int) (neg1 : Bool) (A1 : Option Addr) (c1 : Nat) (xs1 : List Int) (w : World) (_hl0 : xs0.length ≤ 1048576) (_hr0 : Rd w w.heap.size A0 xs0.length xs0) (_hl1 : xs1.length ≤ 1048576) (_hr1 : Rd w w.heap.size A1 xs1.length xs1) (_hc1 : xs1.length ≤ c1) (hg0 : Good neg0 xs0) (hg1 : Good neg1 xs1) :
    ∀ z, z = num neg0 xs0 - num neg1 xs1 → Calls Try.prog 25 #[.agg #[.bool neg0, .slice A0 xs0.length c0], .agg #[.bool neg1, .slice A1 xs1.length c1]] w (GivesWholeOk w (resNeg z) (resDigs z) (resOk z)) := by
  intro z hz
  replace hz := Lib.hid hz
  have h := Below.refl w.heap.size w
  have hA := below_alloc1 w (.cells #[.bool neg0, .slice A0 xs0.length c0] 27)
  replace h := Below.step h hA
  have hx0 := Box.new w 27 #[.bool neg0, .slice A0 xs0.length c0]
  clear hA
  have hA := below_alloc1 (w.alloc (.cells #[.bool neg0, .slice A0 xs0.length c0] 27)) (.cells #[.bool neg1, .slice A1 xs1.length c1] 27)
  replace h := Below.step h hA
  replace hx0 := hx0.kept hA
  have hx1 := Box.new (w.alloc (.cells #[.bool neg0, .slice A0 xs0.length c0] 27)) 27 #[.bool neg1, .slice A1 xs1.length c1]
  rw [show (w.alloc (.cells #[.bool neg0, .slice A0 xs0.length c0] 27)).heap.size = w.heap.size + 1 from by simp] at hx1
  clear hA
  have hA := below_alloc1 ((w.alloc (.cells #[.bool neg0, .slice A0 xs0.length c0] 27)).alloc (.cells #[.bool neg1, .slice A1 xs1.length c1] 27)) (.cells #[.bool false, .slice none 0 0] 27)
  replace h := Below.step h hA
  replace hx0 := hx0.kept hA
  replace hx1 := hx1.kept hA
  have hxr := Box.new ((w.alloc (.cells #[.bool neg0, .slice A0 xs0.length c0] 27)).alloc (.cells #[.bool neg1, .slice A1 xs1.length c1] 27)) 27 #[.bool false, .slice none 0 0]
  rw [show ((w.alloc (.cells #[.bool neg0, .slice A0 xs0.length c0] 27)).alloc (.cells #[.bool neg1, .slice A1 xs1.length c1] 27)).heap.size = w.heap.size + 1 + 1 from by simp] at hxr
  clear hA
  have l0 := hg0.len
  have l1 := hg1.len
  go_enter Try.func25, Try.ntmps25
  go_wp2_with fail
  refine (bgGood_yes neg0 A0 _ c0 xs0 _ (_hr0.kept h) hg0).mono ?_
  rintro e w1 ⟨rfl, hb⟩
  replace h := Below.step h hb
  replace hx0 := hx0.kept hb
  replace hx1 := hx1.kept hb
  replace hxr := hxr.kept hb
  clear hb
  obtain ⟨ahx0, bhx0⟩ := hx0.two
  have lhx0 := hx0.lt
  obtain ⟨ahx1, bhx1⟩ := hx1.two
  have lhx1 := hx1.lt
  obtain ⟨ahxr, bhxr⟩ := hxr.two
  have lhxr := hxr.lt
  go_wp2_with fail
  refine (bgGood_yes neg1 A1 _ c1 xs1 _ (_hr1.kept h) hg1).mono ?_
  rintro e w2 ⟨rfl, hb⟩
  replace h := Below.step h hb
  replace hx0 := hx0.kept hb
  replace hx1 := hx1.kept hb
  replace hxr := hxr.kept hb
  clear hb ahx0 bhx0 lhx0 ahx1 bhx1 lhx1 ahxr bhxr lhxr
  obtain ⟨ahx0, bhx0⟩ := hx0.two
  have lhx0 := hx0.lt
  obtain ⟨ahx1, bhx1⟩ := hx1.two
  have lhx1 := hx1.lt
  obtain ⟨ahxr, bhxr⟩ := hxr.two
  have lhxr := hxr.lt
  go_wp2_with fail
  refine (bgSub_any neg0 A0 c0 xs0 neg1 A1 c1 xs1 _ (by omega) (_hr0.kept h) (by omega) _hc1 (_hr1.kept h) hg0.rng hg1.rng z hz.out).mono ?_
  rintro e w8 ⟨Am, cm, rfl, hom, hb⟩
  have hbase := h.size
  replace h := Below.step h hb
  replace hx0 := hx0.kept hb
  replace hx1 := hx1.kept hb
  replace hxr := hxr.kept hb
  clear hb ahx0 bhx0 lhx0 ahx1 bhx1 lhx1 ahxr bhxr lhxr
  obtain ⟨ahx0, bhx0⟩ := hx0.two
  have lhx0 := hx0.lt
  obtain ⟨ahx1, bhx1⟩ := hx1.two
  have lhx1 := hx1.lt
  obtain ⟨ahxr, bhxr⟩ := hxr.two
  have lhxr := hxr.lt
  go_wp2_with fail
  refine (bgIf_any z Am cm _ _ hom.len hom).mono ?_
  rintro e w9 ⟨Ar, cr, rfl, hor, hb⟩
  replace h := Below.step h hb
  replace hx0 := hx0.kept hb
  replace hx1 := hx1.kept hb
  replace hxr := hxr.kept hb
  clear hb ahx0 bhx0 lhx0 ahx1 bhx1 lhx1 ahxr bhxr lhxr
  obtain ⟨ahx0, bhx0⟩ := hx0.two
  have lhx0 := hx0.lt
  obtain ⟨ahx1, bhx1⟩ := hx1.two
  have lhx1 := hx1.lt
  obtain ⟨ahxr, bhxr⟩ := hxr.two
  have lhxr := hxr.lt
  have f0 := hxr.free 0
  have f1 := hxr.free 1
  go_wp2_with fail
  refine bodyPost_ret (v := .tuple #[.agg #[.bool (resNeg z), .slice Ar (resDigs z).length cr], .bool (resOk z)]) (by simp [results, Try.results25, go_sem, ahxr, bhxr]) rfl ⟨Ar, cr, rfl, ?_, ?_⟩
  · exact ((hor.set_box hxr (by decide)).set_box (hxr.set 0 _) (by decide)).le hbase
  · exact (h.setCell (by first | (simp; done) | (simp; omega)) _).setCell (by first | (simp; done) | (simp; omega)) _

set_option maxHeartbeats 1000000 in
theorem subI_no1 (neg0 : Bool) (A0 : Option Addr) (c0 : Nat) (xs0 : List Int) (neg1 : Bool) (A1 : Option Addr) (c1 : Nat) (xs1 : List Int) (w : World) (_hl0 : xs0.length ≤ 1048576) (_hr0 : Rd w w.heap.size A0 xs0.length xs0) (_hl1 : xs1.length ≤ 1048576) (_hr1 : Rd w w.heap.size A1 xs1.length xs1)  (hg : ¬ Good neg0 xs0)  :
    Calls Try.prog 26 #[.agg #[.bool neg0, .slice A0 xs0.length c0], .agg #[.bool neg1, .slice A1 xs1.length c1]] w (GivesWholeOk w false [] false) := by
  have h := Below.refl w.heap.size w
  have hA := below_alloc1 w (.cells #[.bool neg0, .slice A0 xs0.length c0] 27)
  replace h := Below.step h hA
  have hx0 := Box.new w 27 #[.bool neg0, .slice A0 xs0.length c0]
  clear hA
  have hA := below_alloc1 (w.alloc (.cells #[.bool neg0, .slice A0 xs0.length c0] 27)) (.cells #[.bool neg1, .slice A1 xs1.length c1] 27)
  replace h := Below.step h hA
  replace hx0 := hx0.kept hA
  have hx1 := Box.new (w.alloc (.cells #[.bool neg0, .slice A0 xs0.length c0] 27)) 27 #[.bool neg1, .slice A1 xs1.length c1]
  rw [show (w.alloc (.cells #[.bool neg0, .slice A0 xs0.length c0] 27)).heap.size = w.heap.size + 1 from by simp] at hx1
  clear hA
  have hA := below_alloc1 ((w.alloc (.cells #[.bool neg0, .slice A0 xs0.length c0] 27)).alloc (.cells #[.bool neg1, .slice A1 xs1.length c1] 27)) (.cells #[.bool false, .slice none 0 0] 27)
  replace h := Below.step h hA
  replace hx0 := hx0.kept hA
  replace hx1 := hx1.kept hA
  have hxr := Box.new ((w.alloc (.cells #[.bool neg0, .slice A0 xs0.length c0] 27)).alloc (.cells #[.bool neg1, .slice A1 xs1.length c1] 27)) 27 #[.bool false, .slice none 0 0]
  rw [show ((w.alloc (.cells #[.bool neg0, .slice A0 xs0.length c0] 27)).alloc (.cells #[.bool neg1, .slice A1 xs1.length c1] 27)).heap.size = w.heap.size + 1 + 1 from by simp] at hxr
  clear hA
  go_enter Try.func26, Try.ntmps26
  go_wp2_with fail
  refine (isWholeI_no neg0 A0 _ c0 xs0 _ (by omega) (_hr0.kept h) hg).mono ?_
  rintro e w1 ⟨rfl, hb⟩
  replace h := Below.step h hb
  replace hx0 := hx0.kept hb
  replace hx1 := hx1.kept hb
  replace hxr := hxr.kept hb
  clear hb
  obtain ⟨ahx0, bhx0⟩ := hx0.two
  have lhx0 := hx0.lt
  obtain ⟨ahx1, bhx1⟩ := hx1.two
  have lhx1 := hx1.lt
  obtain ⟨ahxr, bhxr⟩ := hxr.two
  have lhxr := hxr.lt
  have f0 := hxr.free 0
  have f1 := hxr.free 1
  go_wp2_with fail
  refine bodyPost_ret (v := .tuple #[.agg #[.bool false, .slice none 0 0], .bool false]) (by simp [results, Try.results26, go_sem, ahxr, bhxr]) rfl ⟨none, 0, rfl, World.ownsRow_nil _ _ _ _, ?_⟩
  exact (h.setCell (by first | (simp; done) | (simp; omega)) _).setCell (by first | (simp; done) | (simp; omega)) _

set_option maxHeartbeats 1000000 in
theorem subI_no2 (neg0 : Bool) (A0 : Option Addr) (c0 : Nat) (xs0 : List Int) (neg1 : Bool) (A1 : Option Addr) (c1 : Nat) (xs1 : List Int) (w : World) (_hl0 : xs0.length ≤ 1048576) (_hr0 : Rd w w.heap.size A0 xs0.length xs0) (_hl1 : xs1.length ≤ 1048576) (_hr1 : Rd w w.heap.size A1 xs1.length xs1) (hg0 : Good neg0 xs0) (hg : ¬ Good neg1 xs1)  :
    Calls Try.prog 26 #[.agg #[.bool neg0, .slice A0 xs0.length c0], .agg #[.bool neg1, .slice A1 xs1.length c1]] w (GivesWholeOk w false [] false) := by
  have h := Below.refl w.heap.size w
  have hA := below_alloc1 w (.cells #[.bool neg0, .slice A0 xs0.length c0] 27)
  replace h := Below.step h hA
  have hx0 := Box.new w 27 #[.bool neg0, .slice A0 xs0.length c0]
  clear hA
  have hA := below_alloc1 (w.alloc (.cells #[.bool neg0, .slice A0 xs0.length c0] 27)) (.cells #[.bool neg1, .slice A1 xs1.length c1] 27)
  replace h := Below.step h hA
  replace hx0 := hx0.kept hA
  have hx1 := Box.new (w.alloc (.cells #[.bool neg0, .slice A0 xs0.length c0] 27)) 27 #[.bool neg1, .slice A1 xs1.length c1]
  rw [show (w.alloc (.cells #[.bool neg0, .slice A0 xs0.length c0] 27)).heap.size = w.heap.size + 1 from by simp] at hx1
  clear hA
  have hA := below_alloc1 ((w.alloc (.cells #[.bool neg0, .slice A0 xs0.length c0] 27)).alloc (.cells #[.bool neg1, .slice A1 xs1.length c1] 27)) (.cells #[.bool false, .slice none 0 0] 27)
  replace h := Below.step h hA
  replace hx0 := hx0.kept hA
  replace hx1 := hx1.kept hA
  have hxr := Box.new ((w.alloc (.cells #[.bool neg0, .slice A0 xs0.length c0] 27)).alloc (.cells #[.bool neg1, .slice A1 xs1.length c1] 27)) 27 #[.bool false, .slice none 0 0]
  rw [show ((w.alloc (.cells #[.bool neg0, .slice A0 xs0.length c0] 27)).alloc (.cells #[.bool neg1, .slice A1 xs1.length c1] 27)).heap.size = w.heap.size + 1 + 1 from by simp] at hxr
  clear hA
  go_enter Try.func26, Try.ntmps26
  go_wp2_with fail
  refine (isWholeI_yes neg0 A0 _ c0 xs0 _ (_hr0.kept h) hg0).mono ?_
  rintro e w1 ⟨rfl, hb⟩
  replace h := Below.step h hb
  replace hx0 := hx0.kept hb
  replace hx1 := hx1.kept hb
  replace hxr := hxr.kept hb
  clear hb
  obtain ⟨ahx0, bhx0⟩ := hx0.two
  have lhx0 := hx0.lt
  obtain ⟨ahx1, bhx1⟩ := hx1.two
  have lhx1 := hx1.lt
  obtain ⟨ahxr, bhxr⟩ := hxr.two
  have lhxr := hxr.lt
  go_wp2_with fail
  refine (isWholeI_no neg1 A1 _ c1 xs1 _ (by omega) (_hr1.kept h) hg).mono ?_
  rintro e w2 ⟨rfl, hb⟩
  replace h := Below.step h hb
  replace hx0 := hx0.kept hb
  replace hx1 := hx1.kept hb
  replace hxr := hxr.kept hb
  clear hb ahx0 bhx0 lhx0 ahx1 bhx1 lhx1 ahxr bhxr lhxr
  obtain ⟨ahx0, bhx0⟩ := hx0.two
  have lhx0 := hx0.lt
  obtain ⟨ahx1, bhx1⟩ := hx1.two
  have lhx1 := hx1.lt
  obtain ⟨ahxr, bhxr⟩ := hxr.two
  have lhxr := hxr.lt
  have f0 := hxr.free 0
  have f1 := hxr.free 1
  go_wp2_with fail
  refine bodyPost_ret (v := .tuple #[.agg #[.bool false, .slice none 0 0], .bool false]) (by simp [results, Try.results26, go_sem, ahxr, bhxr]) rfl ⟨none, 0, rfl, World.ownsRow_nil _ _ _ _, ?_⟩
  exact (h.setCell (by first | (simp; done) | (simp; omega)) _).setCell (by first | (simp; done) | (simp; omega)) _

set_option maxHeartbeats 1000000 in
theorem subI_yes (neg0 : Bool) (A0 : Option Addr) (c0 : Nat) (xs0 : List Int) (neg1 : Bool) (A1 : Option Addr) (c1 : Nat) (xs1 : List Int) (w : World) (_hl0 : xs0.length ≤ 1048576) (_hr0 : Rd w w.heap.size A0 xs0.length xs0) (_hl1 : xs1.length ≤ 1048576) (_hr1 : Rd w w.heap.size A1 xs1.length xs1) (_hc1 : xs1.length ≤ c1) (hg0 : Good neg0 xs0) (hg1 : Good neg1 xs1) :
    ∀ z, z = num neg0 xs0 - num neg1 xs1 → Calls Try.prog 26 #[.agg #[.bool neg0, .slice A0 xs0.length c0], .agg #[.bool neg1, .slice A1 xs1.length c1]] w (GivesWholeOk w (resNeg z) (resDigs z) (resOk z)) := by
  intro z hz
  replace hz := Lib.hid hz
  have h := Below.refl w.heap.size w
  have hA := below_alloc1 w (.cells #[.bool neg0, .slice A0 xs0.length c0] 27)
  replace h := Below.step h hA
  have hx0 := Box.new w 27 #[.bool neg0, .slice A0 xs0.length c0]
  clear hA
  have hA := below_alloc1 (w.alloc (.cells #[.bool neg0, .slice A0 xs0.length c0] 27)) (.cells #[.bool neg1, .slice A1 xs1.length c1] 27)
  replace h := Below.step h hA
  replace hx0 := hx0.kept hA
  have hx1 := Box.new (w.alloc (.cells #[.bool neg0, .slice A0 xs0.length c0] 27)) 27 #[.bool neg1, .slice A1 xs1.length c1]
  rw [show (w.alloc (.cells #[.bool neg0, .slice A0 xs0.length c0] 27)).heap.size = w.heap.size + 1 from by simp] at hx1
  clear hA
  have hA := below_alloc1 ((w.alloc (.cells #[.bool neg0, .slice A0 xs0.length c0] 27)).alloc (.cells #[.bool neg1, .slice A1 xs1.length c1] 27)) (.cells #[.bool false, .slice none 0 0] 27)
  replace h := Below.step h hA
  replace hx0 := hx0.kept hA
  replace hx1 := hx1.kept hA
  have hxr := Box.new ((w.alloc (.cells #[.bool neg0, .slice A0 xs0.length c0] 27)).alloc (.cells #[.bool neg1, .slice A1 xs1.length c1] 27)) 27 #[.bool false, .slice none 0 0]
  rw [show ((w.alloc (.cells #[.bool neg0, .slice A0 xs0.length c0] 27)).alloc (.cells #[.bool neg1, .slice A1 xs1.length c1] 27)).heap.size = w.heap.size + 1 + 1 from by simp] at hxr
  clear hA
  have l0 := hg0.len
  have l1 := hg1.len
  go_enter Try.func26, Try.ntmps26
  go_wp2_with fail
  refine (isWholeI_yes neg0 A0 _ c0 xs0 _ (_hr0.kept h) hg0).mono ?_
  rintro e w1 ⟨rfl, hb⟩
  replace h := Below.step h hb
  replace hx0 := hx0.kept hb
  replace hx1 := hx1.kept hb
  replace hxr := hxr.kept hb
  clear hb
  obtain ⟨ahx0, bhx0⟩ := hx0.two
  have lhx0 := hx0.lt
  obtain ⟨ahx1, bhx1⟩ := hx1.two
  have lhx1 := hx1.lt
  obtain ⟨ahxr, bhxr⟩ := hxr.two
  have lhxr := hxr.lt
  go_wp2_with fail
  refine (isWholeI_yes neg1 A1 _ c1 xs1 _ (_hr1.kept h) hg1).mono ?_
  rintro e w2 ⟨rfl, hb⟩
  replace h := Below.step h hb
  replace hx0 := hx0.kept hb
  replace hx1 := hx1.kept hb
  replace hxr := hxr.kept hb
  clear hb ahx0 bhx0 lhx0 ahx1 bhx1 lhx1 ahxr bhxr lhxr
  obtain ⟨ahx0, bhx0⟩ := hx0.two
  have lhx0 := hx0.lt
  obtain ⟨ahx1, bhx1⟩ := hx1.two
  have lhx1 := hx1.lt
  obtain ⟨ahxr, bhxr⟩ := hxr.two
  have lhxr := hxr.lt
  go_wp2_with fail
  have ez : num neg0 xs0 + num (!neg1) xs1 = z := by rw [num_not, hz.out]; omega
  refine (addSigned_any neg0 A0 c0 xs0 (!neg1) A1 c1 xs1 _ (by omega) (_hr0.kept h) (by omega) (_hr1.kept h) hg0.rng hg1.rng hg0.trimmed hg1.trimmed).mono ?_
  rw [ez]
  clear ez
  rintro e w9 ⟨Ar, cr, rfl, hor, hb⟩
  have hbase := h.size
  replace h := Below.step h hb
  replace hx0 := hx0.kept hb
  replace hx1 := hx1.kept hb
  replace hxr := hxr.kept hb
  clear hb ahx0 bhx0 lhx0 ahx1 bhx1 lhx1 ahxr bhxr lhxr
  obtain ⟨ahx0, bhx0⟩ := hx0.two
  have lhx0 := hx0.lt
  obtain ⟨ahx1, bhx1⟩ := hx1.two
  have lhx1 := hx1.lt
  obtain ⟨ahxr, bhxr⟩ := hxr.two
  have lhxr := hxr.lt
  have f0 := hxr.free 0
  have f1 := hxr.free 1
  go_wp2_with fail
  refine bodyPost_ret (v := .tuple #[.agg #[.bool (resNeg z), .slice Ar (resDigs z).length cr], .bool (resOk z)]) (by simp [results, Try.results26, go_sem, ahxr, bhxr]) rfl ⟨Ar, cr, rfl, ?_, ?_⟩
  · exact ((hor.set_box hxr (by decide)).set_box (hxr.set 0 _) (by decide)).le hbase
  · exact (h.setCell (by first | (simp; done) | (simp; omega)) _).setCell (by first | (simp; done) | (simp; omega)) _

theorem lawAddWholes_any (neg0 : Bool) (A0 : Option Addr) (n0 c0 : Nat) (xs0 : List Int) (neg1 : Bool) (A1 : Option Addr) (n1 c1 : Nat) (xs1 : List Int) (w : World) (hm0 : n0 ≤ 9223372036854775807) (hr0 : Rd w w.heap.size A0 n0 xs0) (hm1 : n1 ≤ 9223372036854775807) (hr1 : Rd w w.heap.size A1 n1 xs1) :
    Calls Try.prog 5 #[.agg #[.bool neg0, .slice A0 n0 c0], .agg #[.bool neg1, .slice A1 n1 c1]] w fun e w' => e = .returned (.bool true) ∧ Below w.heap.size w w' := by
  by_cases hg0 : Good neg0 xs0
  · by_cases hg1 : Good neg1 xs1
    · exact lawAddWholes_core neg0 A0 n0 c0 xs0 neg1 A1 n1 c1 xs1 w hm0 hr0 hm1 hr1 _ _ (resDigs_len _) _ (fun h0 h1 A0 c0 A1 c1 w r0 _ r1 k1 => addS_yes neg0 A0 c0 xs0 neg1 A1 c1 xs1 w h0 r0 h1 r1 k1 hg0 hg1 (num neg0 xs0 + num neg1 xs1) rfl) (fun h0 h1 A0 c0 A1 c1 w r0 _ r1 k1 => addI_yes neg0 A0 c0 xs0 neg1 A1 c1 xs1 w h0 r0 h1 r1 k1 hg0 hg1 (num neg0 xs0 + num neg1 xs1) rfl)
    · exact lawAddWholes_core neg0 A0 n0 c0 xs0 neg1 A1 n1 c1 xs1 w hm0 hr0 hm1 hr1 _ _ (by simp) _ (fun h0 h1 A0 c0 A1 c1 w r0 _ r1 _ => addS_no2 neg0 A0 c0 xs0 neg1 A1 c1 xs1 w h0 r0 h1 r1 hg0 hg1) (fun h0 h1 A0 c0 A1 c1 w r0 _ r1 _ => addI_no2 neg0 A0 c0 xs0 neg1 A1 c1 xs1 w h0 r0 h1 r1 hg0 hg1)
  · exact lawAddWholes_core neg0 A0 n0 c0 xs0 neg1 A1 n1 c1 xs1 w hm0 hr0 hm1 hr1 _ _ (by simp) _ (fun h0 h1 A0 c0 A1 c1 w r0 _ r1 _ => addS_no1 neg0 A0 c0 xs0 neg1 A1 c1 xs1 w h0 r0 h1 r1 hg0) (fun h0 h1 A0 c0 A1 c1 w r0 _ r1 _ => addI_no1 neg0 A0 c0 xs0 neg1 A1 c1 xs1 w h0 r0 h1 r1 hg0)
theorem lawSubtractWholes_any (neg0 : Bool) (A0 : Option Addr) (n0 c0 : Nat) (xs0 : List Int) (neg1 : Bool) (A1 : Option Addr) (n1 c1 : Nat) (xs1 : List Int) (w : World) (hm0 : n0 ≤ 9223372036854775807) (hr0 : Rd w w.heap.size A0 n0 xs0) (hm1 : n1 ≤ 9223372036854775807) (hr1 : Rd w w.heap.size A1 n1 xs1) :
    Calls Try.prog 6 #[.agg #[.bool neg0, .slice A0 n0 c0], .agg #[.bool neg1, .slice A1 n1 c1]] w fun e w' => e = .returned (.bool true) ∧ Below w.heap.size w w' := by
  by_cases hg0 : Good neg0 xs0
  · by_cases hg1 : Good neg1 xs1
    · exact lawSubtractWholes_core neg0 A0 n0 c0 xs0 neg1 A1 n1 c1 xs1 w hm0 hr0 hm1 hr1 _ _ (resDigs_len _) _ (fun h0 h1 A0 c0 A1 c1 w r0 _ r1 k1 => subS_yes neg0 A0 c0 xs0 neg1 A1 c1 xs1 w h0 r0 h1 r1 k1 hg0 hg1 (num neg0 xs0 - num neg1 xs1) rfl) (fun h0 h1 A0 c0 A1 c1 w r0 _ r1 k1 => subI_yes neg0 A0 c0 xs0 neg1 A1 c1 xs1 w h0 r0 h1 r1 k1 hg0 hg1 (num neg0 xs0 - num neg1 xs1) rfl)
    · exact lawSubtractWholes_core neg0 A0 n0 c0 xs0 neg1 A1 n1 c1 xs1 w hm0 hr0 hm1 hr1 _ _ (by simp) _ (fun h0 h1 A0 c0 A1 c1 w r0 _ r1 _ => subS_no2 neg0 A0 c0 xs0 neg1 A1 c1 xs1 w h0 r0 h1 r1 hg0 hg1) (fun h0 h1 A0 c0 A1 c1 w r0 _ r1 _ => subI_no2 neg0 A0 c0 xs0 neg1 A1 c1 xs1 w h0 r0 h1 r1 hg0 hg1)
  · exact lawSubtractWholes_core neg0 A0 n0 c0 xs0 neg1 A1 n1 c1 xs1 w hm0 hr0 hm1 hr1 _ _ (by simp) _ (fun h0 h1 A0 c0 A1 c1 w r0 _ r1 _ => subS_no1 neg0 A0 c0 xs0 neg1 A1 c1 xs1 w h0 r0 h1 r1 hg0) (fun h0 h1 A0 c0 A1 c1 w r0 _ r1 _ => subI_no1 neg0 A0 c0 xs0 neg1 A1 c1 xs1 w h0 r0 h1 r1 hg0)
end Go.Proofs.Ytlkdelhmjjnnnaa
