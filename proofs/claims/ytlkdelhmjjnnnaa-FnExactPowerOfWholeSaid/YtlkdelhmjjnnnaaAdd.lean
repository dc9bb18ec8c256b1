/- Sums of wholes: the model's bgAdd and the program's addSigned. -/
import Derived.Test.YtlkdelhmjjnnnaaCombineI
import Derived.Deep.RegionHeld3
namespace Go.Proofs.Ytlkdelhmjjnnnaa
open Go.RowKit Go.Joins

theorem cell_far {W : World} {p : Addr} {u : Value} {g j : Nat} (hn : g ≠ p.block) : (W.setCell p u).cell? ⟨g, j, none⟩ = W.cell? ⟨g, j, none⟩ := World.cell?_of_block (Below.heap_setCell W p u g hn)
theorem num_same {n : Bool} {xs ys out : List Int} (h : val out = val xs + 1 * val ys) : num n out = num n xs + num n ys := by unfold num; cases n <;> simp <;> omega
theorem num_diff {n m : Bool} {xs ys out : List Int} (hd : n ≠ m) (h : val out = val xs + (-1) * val ys) : num n out = num n xs + num m ys := by unfold num; cases n <;> cases m <;> simp at hd ⊢ <;> omega
theorem cmpI_nonneg {a b : Int} : 0 ≤ cmpI a b ↔ b ≤ a := by unfold cmpI; (repeat' split) <;> omega
theorem cmpL_trim {xs ys : List Int} (h1 : Trimmed xs) (h2 : Trimmed ys) (r1 : Rng 0 9999 xs) (r2 : Rng 0 9999 ys) : cmpL xs ys xs.length ys.length = cmpI (val xs) (val ys) := by
  rw [← cmpTo_val (max xs.length ys.length) xs ys r1 r2 (by omega) (by omega)]
  unfold cmpL
  by_cases h : xs.length = ys.length
  · rw [if_pos h, h, Nat.max_self]
  · rw [if_neg h]
    by_cases hlt : xs.length < ys.length
    · obtain ⟨k, hk⟩ : ∃ k, ys.length = k + 1 := ⟨ys.length - 1, by omega⟩
      have g := h2 (by omega)
      rw [Nat.max_eq_right (by omega), hk, cmpTo_lt]
      · unfold cmpI; rw [if_pos (by omega)]
      · rw [List.getElem?_eq_none (by omega)]
        rw [hk] at g
        simpa using g
    · obtain ⟨k, hk⟩ : ∃ k, xs.length = k + 1 := ⟨xs.length - 1, by omega⟩
      have g := h1 (by omega)
      rw [Nat.max_eq_left (by omega), hk, cmpTo_gt]
      · unfold cmpI; rw [if_neg (by omega), if_pos (by omega)]
      · rw [List.getElem?_eq_none (by omega)]
        rw [hk] at g
        simpa using g

set_option maxHeartbeats 4000000 in
set_option maxRecDepth 100000 in
theorem bgAdd_any (neg0 : Bool) (A0 : Option Addr) (c0 : Nat) (xs0 : List Int) (neg1 : Bool) (A1 : Option Addr) (c1 : Nat) (xs1 : List Int) (w : World) (_hl0 : xs0.length ≤ 500) (_hr0 : Rd w w.heap.size A0 xs0.length xs0) (_hl1 : xs1.length ≤ 500) (_hr1 : Rd w w.heap.size A1 xs1.length xs1) (hg0x : Rng 0 9999 xs0) (hg1x : Rng 0 9999 xs1) :
    Calls Try.prog 51 #[.agg #[.bool neg0, .slice A0 xs0.length c0], .agg #[.bool neg1, .slice A1 xs1.length c1]] w (GivesNum w (num neg0 xs0 + num neg1 xs1)) := by
  have h : Below w.heap.size w (((w.alloc (.cells #[.bool neg0, .slice A0 xs0.length c0] 27)).alloc (.cells #[.bool neg1, .slice A1 xs1.length c1] 27)).alloc (.cells #[.bool false, .slice none 0 0] 27)) := below_alloc3 _ _ _ _
  have hx0 : Box (((w.alloc (.cells #[.bool neg0, .slice A0 xs0.length c0] 27)).alloc (.cells #[.bool neg1, .slice A1 xs1.length c1] 27)).alloc (.cells #[.bool false, .slice none 0 0] 27)) w.heap.size 27 #[.bool neg0, .slice A0 xs0.length c0] := (Box.new _ _ _).kept (below_alloc2 _ _ _)
  have hx1 : Box (((w.alloc (.cells #[.bool neg0, .slice A0 xs0.length c0] 27)).alloc (.cells #[.bool neg1, .slice A1 xs1.length c1] 27)).alloc (.cells #[.bool false, .slice none 0 0] 27)) (w.heap.size + 1) 27 #[.bool neg1, .slice A1 xs1.length c1] := by
    have := (Box.new (w.alloc (.cells #[.bool neg0, .slice A0 xs0.length c0] 27)) 27 #[.bool neg1, .slice A1 xs1.length c1]).kept (below_alloc1 _ (.cells #[.bool false, .slice none 0 0] 27))
    simpa using this
  have hxr : Box (((w.alloc (.cells #[.bool neg0, .slice A0 xs0.length c0] 27)).alloc (.cells #[.bool neg1, .slice A1 xs1.length c1] 27)).alloc (.cells #[.bool false, .slice none 0 0] 27)) (w.heap.size + 1 + 1) 27 #[.bool false, .slice none 0 0] := by
    have := Box.new ((w.alloc (.cells #[.bool neg0, .slice A0 xs0.length c0] 27)).alloc (.cells #[.bool neg1, .slice A1 xs1.length c1] 27)) 27 #[.bool false, .slice none 0 0]
    simpa using this
  obtain ⟨g0, e0⟩ : ∃ g, g = w.heap.size := ⟨_, rfl⟩
  obtain ⟨g1, e1⟩ : ∃ g, g = w.heap.size + 1 := ⟨_, rfl⟩
  obtain ⟨gr, er⟩ : ∃ g, g = w.heap.size + 1 + 1 := ⟨_, rfl⟩
  have n0 : g0 ≠ gr := by omega
  have n1 : g1 ≠ gr := by omega
  have n01 : g0 ≠ g1 := by omega
  have hgr : w.heap.size ≤ gr := by omega
  have hg0 : w.heap.size ≤ g0 := by omega
  have hg1 : w.heap.size ≤ g1 := by omega
  rw [← er] at hxr
  rw [← e1] at hx1
  rw [← e0] at hx0
  have v0 := val_nonneg hg0x
  have v1 := val_nonneg hg1x
  by_cases hne : neg0 = neg1
  · subst hne
    have eb : (neg0 == neg0) = true := by simp
    have hT : 0 ≤ val xs0 + 1 * val xs1 := by omega
    go_enter Try.func51, Try.ntmps51
    go_wp2_with fail
    rw [← er, ← e1, ← e0]
    clear e0 e1 er
    generalize (((w.alloc (.cells #[.bool neg0, .slice A0 xs0.length c0] 27)).alloc (.cells #[.bool neg0, .slice A1 xs1.length c1] 27)).alloc (.cells #[.bool false, .slice none 0 0] 27)) = w0 at *
    obtain ⟨k00, k01⟩ := hx0.two
    obtain ⟨k10, k11⟩ := hx1.two
    have KS : ∀ (W : World) (i j : Nat) (u v : Value), (W.cell? ⟨g0, 0, none⟩ = some (.bool neg0) ∧ W.cell? ⟨g0, 1, none⟩ = some (.slice A0 xs0.length c0) ∧ W.cell? ⟨g1, 0, none⟩ = some (.bool neg0) ∧ W.cell? ⟨g1, 1, none⟩ = some (.slice A1 xs1.length c1) ∧ Below w.heap.size w W) → (((W.setCell ⟨gr, i, none⟩ u).setCell ⟨gr, j, none⟩ v).cell? ⟨g0, 0, none⟩ = some (.bool neg0) ∧ ((W.setCell ⟨gr, i, none⟩ u).setCell ⟨gr, j, none⟩ v).cell? ⟨g0, 1, none⟩ = some (.slice A0 xs0.length c0) ∧ ((W.setCell ⟨gr, i, none⟩ u).setCell ⟨gr, j, none⟩ v).cell? ⟨g1, 0, none⟩ = some (.bool neg0) ∧ ((W.setCell ⟨gr, i, none⟩ u).setCell ⟨gr, j, none⟩ v).cell? ⟨g1, 1, none⟩ = some (.slice A1 xs1.length c1) ∧ Below w.heap.size w ((W.setCell ⟨gr, i, none⟩ u).setCell ⟨gr, j, none⟩ v)) := fun W i j u v ⟨q0, q1, q2, q3, hW⟩ => ⟨(cell_far n0).trans ((cell_far n0).trans q0), (cell_far n0).trans ((cell_far n0).trans q1), (cell_far n1).trans ((cell_far n1).trans q2), (cell_far n1).trans ((cell_far n1).trans q3), (hW.setCell hgr _).setCell hgr _⟩
    have KC : ∀ (W W' : World), Below W.heap.size W W' → (W.cell? ⟨g0, 0, none⟩ = some (.bool neg0) ∧ W.cell? ⟨g0, 1, none⟩ = some (.slice A0 xs0.length c0) ∧ W.cell? ⟨g1, 0, none⟩ = some (.bool neg0) ∧ W.cell? ⟨g1, 1, none⟩ = some (.slice A1 xs1.length c1) ∧ Below w.heap.size w W) → (W'.cell? ⟨g0, 0, none⟩ = some (.bool neg0) ∧ W'.cell? ⟨g0, 1, none⟩ = some (.slice A0 xs0.length c0) ∧ W'.cell? ⟨g1, 0, none⟩ = some (.bool neg0) ∧ W'.cell? ⟨g1, 1, none⟩ = some (.slice A1 xs1.length c1) ∧ Below w.heap.size w W') := fun W W' hb ⟨q0, q1, q2, q3, hW⟩ => ⟨(hb.cell (p := ⟨g0, 0, none⟩) (World.block_lt_of_cell? W _ q0)).trans q0, (hb.cell (p := ⟨g0, 1, none⟩) (World.block_lt_of_cell? W _ q1)).trans q1, (hb.cell (p := ⟨g1, 0, none⟩) (World.block_lt_of_cell? W _ q2)).trans q2, (hb.cell (p := ⟨g1, 1, none⟩) (World.block_lt_of_cell? W _ q3)).trans q3, Below.step hW hb⟩
    have KB : ∀ (W : World), (W.cell? ⟨g0, 0, none⟩ = some (.bool neg0) ∧ W.cell? ⟨g0, 1, none⟩ = some (.slice A0 xs0.length c0) ∧ W.cell? ⟨g1, 0, none⟩ = some (.bool neg0) ∧ W.cell? ⟨g1, 1, none⟩ = some (.slice A1 xs1.length c1) ∧ Below w.heap.size w W) → Below w.heap.size w W := fun W ⟨_, _, _, _, hW⟩ => hW
    have KM0 : (World.drew w0).cell? ⟨g0, 0, none⟩ = some (.bool neg0) ∧ (World.drew w0).cell? ⟨g0, 1, none⟩ = some (.slice A0 xs0.length c0) ∧ (World.drew w0).cell? ⟨g1, 0, none⟩ = some (.bool neg0) ∧ (World.drew w0).cell? ⟨g1, 1, none⟩ = some (.slice A1 xs1.length c1) ∧ Below w.heap.size w (World.drew w0) := ⟨by assumption, by assumption, by assumption, by assumption, ⟨h.os, h.tape, h.output, h.size, h.block⟩⟩
    have hgt := hxr.lt
    replace KS := Lib.hid KS
    replace KC := Lib.hid KC
    replace KB := Lib.hid KB
    go_region_held3 (fun w' => w'.cell? ⟨g0, 0, none⟩ = some (.bool neg0) ∧ w'.cell? ⟨g0, 1, none⟩ = some (.slice A0 xs0.length c0) ∧ w'.cell? ⟨g1, 0, none⟩ = some (.bool neg0) ∧ w'.cell? ⟨g1, 1, none⟩ = some (.slice A1 xs1.length c1) ∧ Below w.heap.size w w') ((first | assumption | (apply KC.out; assumption; assumption) | (refine KS.out _ _ _ _ _ ?_; assumption)))
      (first
        | (go_at_call 67; (with_reducible refine (bgMake_any neg0 _ _ _ out _ ?_ ?_ ?_ ?_).mono ?_); (exact hlenO); (exact hoA.cap); (exact hoA.rd); (exact hRng); (rw [hnum]); rintro e wB ⟨Ar, cr, rfl, hor, hbB⟩; have hSB : wB.cell? ⟨g0, 0, none⟩ = some (.bool neg0) ∧ wB.cell? ⟨g0, 1, none⟩ = some (.slice A0 xs0.length c0) ∧ wB.cell? ⟨g1, 0, none⟩ = some (.bool neg0) ∧ wB.cell? ⟨g1, 1, none⟩ = some (.slice A1 xs1.length c1) ∧ Below w.heap.size w wB := KC.out _ _ hbB (by assumption); have hxB := (hxr.kept (w' := wA) ⟨hbA.os, hbA.tape, hbA.output, hbA.size, hbA.block⟩).kept hbB; obtain ⟨u0, u1⟩ := hxB.two; have u2 := hxB.free 0; have u3 := hxB.free 1)
        | (go_at_call 74; (with_reducible refine (bgCombine_any _ _ _ _ _ _ xs0 xs1 1 _ ?_ ?_ ?_ ?_ ?_ ?_ ?_ ?_).mono ?_); (exact (.inl rfl)); (exact Nat.le_trans _hl0 (by omega)); (exact Nat.le_trans _hl1 (by omega)); (exact _hr0.kept (KB.out _ (by assumption))); (exact _hr1.kept (KB.out _ (by assumption))); (exact hg0x); (exact hg1x); (exact hT); rintro e wA ⟨Ao, co, out, rfl, hoA, hRng, hval, hlenO, hbA⟩; have hSA : wA.cell? ⟨g0, 0, none⟩ = some (.bool neg0) ∧ wA.cell? ⟨g0, 1, none⟩ = some (.slice A0 xs0.length c0) ∧ wA.cell? ⟨g1, 0, none⟩ = some (.bool neg0) ∧ wA.cell? ⟨g1, 1, none⟩ = some (.slice A1 xs1.length c1) ∧ Below w.heap.size w wA := KC.out _ _ hbA (by assumption); have hnum : num neg0 out = num neg0 xs0 + num neg0 xs1 := num_same hval))
    all_goals go_wp2_with fail
    refine bodyPost_ret (v := .agg #[.bool (decide (num neg0 xs0 + num neg0 xs1 < 0)), .slice Ar (digs (num neg0 xs0 + num neg0 xs1).natAbs).length cr]) (by simp [results, Try.results51, go_sem, u0, u1]) rfl ⟨Ar, cr, rfl, ?_, ?_⟩
    · have h6 := hbA.size
      have h8 := h.size
      (try simp at h6)
      exact ((hor.set_below (by show gr < _; first | omega | (simp; omega)) _).set_below (by show gr < _; first | omega | (simp; omega)) _).le (by first | omega | (simp; omega))
    · exact ((KB.out _ hSB).setCell hgr _).setCell hgr _
  have eb : (neg0 == neg1) = false := by simpa using hne
  by_cases hge : val xs1 ≤ val xs0
  · have ho : val xs1 ≤ val xs0 := hge
    have hT : 0 ≤ val xs0 + (-1) * val xs1 := by omega
    have dc : decide (0 ≤ cmpTo xs0 xs1 (max xs0.length xs1.length)) = true := by rw [cmpTo_val _ xs0 xs1 hg0x hg1x (by omega) (by omega)]; simp only [decide_eq_true_eq]; have := @cmpI_nonneg (val xs0) (val xs1); omega
    go_enter Try.func51, Try.ntmps51
    go_wp2_with fail
    rw [← er, ← e1, ← e0]
    clear e0 e1 er
    generalize (((w.alloc (.cells #[.bool neg0, .slice A0 xs0.length c0] 27)).alloc (.cells #[.bool neg1, .slice A1 xs1.length c1] 27)).alloc (.cells #[.bool false, .slice none 0 0] 27)) = w0 at *
    have cm := Lib.hid (bgOrder_any A0 A1 xs0.length c0 xs1.length c1 w0.heap.size xs0 xs1 w0 (by omega) (by omega) (_hr0.kept h) (_hr1.kept h))
    refine (cm.out).mono ?_
    rintro e w1 ⟨rfl, rfl⟩
    clear cm
    obtain ⟨k00, k01⟩ := hx0.two
    obtain ⟨k10, k11⟩ := hx1.two
    go_wp2_with fail
    have KS : ∀ (W : World) (i j : Nat) (u v : Value), (W.cell? ⟨g0, 0, none⟩ = some (.bool neg0) ∧ W.cell? ⟨g0, 1, none⟩ = some (.slice A0 xs0.length c0) ∧ W.cell? ⟨g1, 0, none⟩ = some (.bool neg1) ∧ W.cell? ⟨g1, 1, none⟩ = some (.slice A1 xs1.length c1) ∧ Below w.heap.size w W) → (((W.setCell ⟨gr, i, none⟩ u).setCell ⟨gr, j, none⟩ v).cell? ⟨g0, 0, none⟩ = some (.bool neg0) ∧ ((W.setCell ⟨gr, i, none⟩ u).setCell ⟨gr, j, none⟩ v).cell? ⟨g0, 1, none⟩ = some (.slice A0 xs0.length c0) ∧ ((W.setCell ⟨gr, i, none⟩ u).setCell ⟨gr, j, none⟩ v).cell? ⟨g1, 0, none⟩ = some (.bool neg1) ∧ ((W.setCell ⟨gr, i, none⟩ u).setCell ⟨gr, j, none⟩ v).cell? ⟨g1, 1, none⟩ = some (.slice A1 xs1.length c1) ∧ Below w.heap.size w ((W.setCell ⟨gr, i, none⟩ u).setCell ⟨gr, j, none⟩ v)) := fun W i j u v ⟨q0, q1, q2, q3, hW⟩ => ⟨(cell_far n0).trans ((cell_far n0).trans q0), (cell_far n0).trans ((cell_far n0).trans q1), (cell_far n1).trans ((cell_far n1).trans q2), (cell_far n1).trans ((cell_far n1).trans q3), (hW.setCell hgr _).setCell hgr _⟩
    have KC : ∀ (W W' : World), Below W.heap.size W W' → (W.cell? ⟨g0, 0, none⟩ = some (.bool neg0) ∧ W.cell? ⟨g0, 1, none⟩ = some (.slice A0 xs0.length c0) ∧ W.cell? ⟨g1, 0, none⟩ = some (.bool neg1) ∧ W.cell? ⟨g1, 1, none⟩ = some (.slice A1 xs1.length c1) ∧ Below w.heap.size w W) → (W'.cell? ⟨g0, 0, none⟩ = some (.bool neg0) ∧ W'.cell? ⟨g0, 1, none⟩ = some (.slice A0 xs0.length c0) ∧ W'.cell? ⟨g1, 0, none⟩ = some (.bool neg1) ∧ W'.cell? ⟨g1, 1, none⟩ = some (.slice A1 xs1.length c1) ∧ Below w.heap.size w W') := fun W W' hb ⟨q0, q1, q2, q3, hW⟩ => ⟨(hb.cell (p := ⟨g0, 0, none⟩) (World.block_lt_of_cell? W _ q0)).trans q0, (hb.cell (p := ⟨g0, 1, none⟩) (World.block_lt_of_cell? W _ q1)).trans q1, (hb.cell (p := ⟨g1, 0, none⟩) (World.block_lt_of_cell? W _ q2)).trans q2, (hb.cell (p := ⟨g1, 1, none⟩) (World.block_lt_of_cell? W _ q3)).trans q3, Below.step hW hb⟩
    have KB : ∀ (W : World), (W.cell? ⟨g0, 0, none⟩ = some (.bool neg0) ∧ W.cell? ⟨g0, 1, none⟩ = some (.slice A0 xs0.length c0) ∧ W.cell? ⟨g1, 0, none⟩ = some (.bool neg1) ∧ W.cell? ⟨g1, 1, none⟩ = some (.slice A1 xs1.length c1) ∧ Below w.heap.size w W) → Below w.heap.size w W := fun W ⟨_, _, _, _, hW⟩ => hW
    have KM0 : (World.drew w0).cell? ⟨g0, 0, none⟩ = some (.bool neg0) ∧ (World.drew w0).cell? ⟨g0, 1, none⟩ = some (.slice A0 xs0.length c0) ∧ (World.drew w0).cell? ⟨g1, 0, none⟩ = some (.bool neg1) ∧ (World.drew w0).cell? ⟨g1, 1, none⟩ = some (.slice A1 xs1.length c1) ∧ Below w.heap.size w (World.drew w0) := ⟨by assumption, by assumption, by assumption, by assumption, ⟨h.os, h.tape, h.output, h.size, h.block⟩⟩
    have hgt := hxr.lt
    replace KS := Lib.hid KS
    replace KC := Lib.hid KC
    replace KB := Lib.hid KB
    go_region_held3 (fun w' => w'.cell? ⟨g0, 0, none⟩ = some (.bool neg0) ∧ w'.cell? ⟨g0, 1, none⟩ = some (.slice A0 xs0.length c0) ∧ w'.cell? ⟨g1, 0, none⟩ = some (.bool neg1) ∧ w'.cell? ⟨g1, 1, none⟩ = some (.slice A1 xs1.length c1) ∧ Below w.heap.size w w') ((first | assumption | (apply KC.out; assumption; assumption) | (refine KS.out _ _ _ _ _ ?_; assumption)))
      (first
        | (go_at_call 67; (with_reducible refine (bgMake_any neg0 _ _ _ out _ ?_ ?_ ?_ ?_).mono ?_); (exact hlenO); (exact hoA.cap); (exact hoA.rd); (exact hRng); (rw [hnum]); rintro e wB ⟨Ar, cr, rfl, hor, hbB⟩; have hSB : wB.cell? ⟨g0, 0, none⟩ = some (.bool neg0) ∧ wB.cell? ⟨g0, 1, none⟩ = some (.slice A0 xs0.length c0) ∧ wB.cell? ⟨g1, 0, none⟩ = some (.bool neg1) ∧ wB.cell? ⟨g1, 1, none⟩ = some (.slice A1 xs1.length c1) ∧ Below w.heap.size w wB := KC.out _ _ hbB (by assumption); have hxB := (hxr.kept (w' := wA) ⟨hbA.os, hbA.tape, hbA.output, hbA.size, hbA.block⟩).kept hbB; obtain ⟨u0, u1⟩ := hxB.two; have u2 := hxB.free 0; have u3 := hxB.free 1)
        | (go_at_call 74; (with_reducible refine (bgCombine_any _ _ _ _ _ _ xs0 xs1 (-1) _ ?_ ?_ ?_ ?_ ?_ ?_ ?_ ?_).mono ?_); (exact (.inr rfl)); (exact Nat.le_trans _hl0 (by omega)); (exact Nat.le_trans _hl1 (by omega)); (exact _hr0.kept (KB.out _ (by assumption))); (exact _hr1.kept (KB.out _ (by assumption))); (exact hg0x); (exact hg1x); (exact hT); rintro e wA ⟨Ao, co, out, rfl, hoA, hRng, hval, hlenO, hbA⟩; have hSA : wA.cell? ⟨g0, 0, none⟩ = some (.bool neg0) ∧ wA.cell? ⟨g0, 1, none⟩ = some (.slice A0 xs0.length c0) ∧ wA.cell? ⟨g1, 0, none⟩ = some (.bool neg1) ∧ wA.cell? ⟨g1, 1, none⟩ = some (.slice A1 xs1.length c1) ∧ Below w.heap.size w wA := KC.out _ _ hbA (by assumption); have hnum : num neg0 out = num neg0 xs0 + num neg1 xs1 := num_diff hne hval))
    all_goals go_wp2_with fail
    refine bodyPost_ret (v := .agg #[.bool (decide (num neg0 xs0 + num neg1 xs1 < 0)), .slice Ar (digs (num neg0 xs0 + num neg1 xs1).natAbs).length cr]) (by simp [results, Try.results51, go_sem, u0, u1]) rfl ⟨Ar, cr, rfl, ?_, ?_⟩
    · have h6 := hbA.size
      have h8 := h.size
      (try simp at h6)
      exact ((hor.set_below (by show gr < _; first | omega | (simp; omega)) _).set_below (by show gr < _; first | omega | (simp; omega)) _).le (by first | omega | (simp; omega))
    · exact ((KB.out _ hSB).setCell hgr _).setCell hgr _
  · have ho : val xs0 < val xs1 := by omega
    have hT : 0 ≤ val xs1 + (-1) * val xs0 := by omega
    have dc : decide (0 ≤ cmpTo xs0 xs1 (max xs0.length xs1.length)) = false := by rw [cmpTo_val _ xs0 xs1 hg0x hg1x (by omega) (by omega)]; simp only [decide_eq_false_iff_not]; have := @cmpI_nonneg (val xs0) (val xs1); omega
    go_enter Try.func51, Try.ntmps51
    go_wp2_with fail
    rw [← er, ← e1, ← e0]
    clear e0 e1 er
    generalize (((w.alloc (.cells #[.bool neg0, .slice A0 xs0.length c0] 27)).alloc (.cells #[.bool neg1, .slice A1 xs1.length c1] 27)).alloc (.cells #[.bool false, .slice none 0 0] 27)) = w0 at *
    have cm := Lib.hid (bgOrder_any A0 A1 xs0.length c0 xs1.length c1 w0.heap.size xs0 xs1 w0 (by omega) (by omega) (_hr0.kept h) (_hr1.kept h))
    refine (cm.out).mono ?_
    rintro e w1 ⟨rfl, rfl⟩
    clear cm
    obtain ⟨k00, k01⟩ := hx0.two
    obtain ⟨k10, k11⟩ := hx1.two
    go_wp2_with fail
    have KS : ∀ (W : World) (i j : Nat) (u v : Value), (W.cell? ⟨g0, 0, none⟩ = some (.bool neg0) ∧ W.cell? ⟨g0, 1, none⟩ = some (.slice A0 xs0.length c0) ∧ W.cell? ⟨g1, 0, none⟩ = some (.bool neg1) ∧ W.cell? ⟨g1, 1, none⟩ = some (.slice A1 xs1.length c1) ∧ Below w.heap.size w W) → (((W.setCell ⟨gr, i, none⟩ u).setCell ⟨gr, j, none⟩ v).cell? ⟨g0, 0, none⟩ = some (.bool neg0) ∧ ((W.setCell ⟨gr, i, none⟩ u).setCell ⟨gr, j, none⟩ v).cell? ⟨g0, 1, none⟩ = some (.slice A0 xs0.length c0) ∧ ((W.setCell ⟨gr, i, none⟩ u).setCell ⟨gr, j, none⟩ v).cell? ⟨g1, 0, none⟩ = some (.bool neg1) ∧ ((W.setCell ⟨gr, i, none⟩ u).setCell ⟨gr, j, none⟩ v).cell? ⟨g1, 1, none⟩ = some (.slice A1 xs1.length c1) ∧ Below w.heap.size w ((W.setCell ⟨gr, i, none⟩ u).setCell ⟨gr, j, none⟩ v)) := fun W i j u v ⟨q0, q1, q2, q3, hW⟩ => ⟨(cell_far n0).trans ((cell_far n0).trans q0), (cell_far n0).trans ((cell_far n0).trans q1), (cell_far n1).trans ((cell_far n1).trans q2), (cell_far n1).trans ((cell_far n1).trans q3), (hW.setCell hgr _).setCell hgr _⟩
    have KC : ∀ (W W' : World), Below W.heap.size W W' → (W.cell? ⟨g0, 0, none⟩ = some (.bool neg0) ∧ W.cell? ⟨g0, 1, none⟩ = some (.slice A0 xs0.length c0) ∧ W.cell? ⟨g1, 0, none⟩ = some (.bool neg1) ∧ W.cell? ⟨g1, 1, none⟩ = some (.slice A1 xs1.length c1) ∧ Below w.heap.size w W) → (W'.cell? ⟨g0, 0, none⟩ = some (.bool neg0) ∧ W'.cell? ⟨g0, 1, none⟩ = some (.slice A0 xs0.length c0) ∧ W'.cell? ⟨g1, 0, none⟩ = some (.bool neg1) ∧ W'.cell? ⟨g1, 1, none⟩ = some (.slice A1 xs1.length c1) ∧ Below w.heap.size w W') := fun W W' hb ⟨q0, q1, q2, q3, hW⟩ => ⟨(hb.cell (p := ⟨g0, 0, none⟩) (World.block_lt_of_cell? W _ q0)).trans q0, (hb.cell (p := ⟨g0, 1, none⟩) (World.block_lt_of_cell? W _ q1)).trans q1, (hb.cell (p := ⟨g1, 0, none⟩) (World.block_lt_of_cell? W _ q2)).trans q2, (hb.cell (p := ⟨g1, 1, none⟩) (World.block_lt_of_cell? W _ q3)).trans q3, Below.step hW hb⟩
    have KB : ∀ (W : World), (W.cell? ⟨g0, 0, none⟩ = some (.bool neg0) ∧ W.cell? ⟨g0, 1, none⟩ = some (.slice A0 xs0.length c0) ∧ W.cell? ⟨g1, 0, none⟩ = some (.bool neg1) ∧ W.cell? ⟨g1, 1, none⟩ = some (.slice A1 xs1.length c1) ∧ Below w.heap.size w W) → Below w.heap.size w W := fun W ⟨_, _, _, _, hW⟩ => hW
    have KM0 : (World.drew w0).cell? ⟨g0, 0, none⟩ = some (.bool neg0) ∧ (World.drew w0).cell? ⟨g0, 1, none⟩ = some (.slice A0 xs0.length c0) ∧ (World.drew w0).cell? ⟨g1, 0, none⟩ = some (.bool neg1) ∧ (World.drew w0).cell? ⟨g1, 1, none⟩ = some (.slice A1 xs1.length c1) ∧ Below w.heap.size w (World.drew w0) := ⟨by assumption, by assumption, by assumption, by assumption, ⟨h.os, h.tape, h.output, h.size, h.block⟩⟩
    have hgt := hxr.lt
    replace KS := Lib.hid KS
    replace KC := Lib.hid KC
    replace KB := Lib.hid KB
    go_region_held3 (fun w' => w'.cell? ⟨g0, 0, none⟩ = some (.bool neg0) ∧ w'.cell? ⟨g0, 1, none⟩ = some (.slice A0 xs0.length c0) ∧ w'.cell? ⟨g1, 0, none⟩ = some (.bool neg1) ∧ w'.cell? ⟨g1, 1, none⟩ = some (.slice A1 xs1.length c1) ∧ Below w.heap.size w w') ((first | assumption | (apply KC.out; assumption; assumption) | (refine KS.out _ _ _ _ _ ?_; assumption)))
      (first
        | (go_at_call 67; (with_reducible refine (bgMake_any neg1 _ _ _ out _ ?_ ?_ ?_ ?_).mono ?_); (exact hlenO); (exact hoA.cap); (exact hoA.rd); (exact hRng); (rw [hnum]); rintro e wB ⟨Ar, cr, rfl, hor, hbB⟩; have hSB : wB.cell? ⟨g0, 0, none⟩ = some (.bool neg0) ∧ wB.cell? ⟨g0, 1, none⟩ = some (.slice A0 xs0.length c0) ∧ wB.cell? ⟨g1, 0, none⟩ = some (.bool neg1) ∧ wB.cell? ⟨g1, 1, none⟩ = some (.slice A1 xs1.length c1) ∧ Below w.heap.size w wB := KC.out _ _ hbB (by assumption); have hxB := (hxr.kept (w' := wA) ⟨hbA.os, hbA.tape, hbA.output, hbA.size, hbA.block⟩).kept hbB; obtain ⟨u0, u1⟩ := hxB.two; have u2 := hxB.free 0; have u3 := hxB.free 1)
        | (go_at_call 74; (with_reducible refine (bgCombine_any _ _ _ _ _ _ xs1 xs0 (-1) _ ?_ ?_ ?_ ?_ ?_ ?_ ?_ ?_).mono ?_); (exact (.inr rfl)); (exact Nat.le_trans _hl1 (by omega)); (exact Nat.le_trans _hl0 (by omega)); (exact _hr1.kept (KB.out _ (by assumption))); (exact _hr0.kept (KB.out _ (by assumption))); (exact hg1x); (exact hg0x); (exact hT); rintro e wA ⟨Ao, co, out, rfl, hoA, hRng, hval, hlenO, hbA⟩; have hSA : wA.cell? ⟨g0, 0, none⟩ = some (.bool neg0) ∧ wA.cell? ⟨g0, 1, none⟩ = some (.slice A0 xs0.length c0) ∧ wA.cell? ⟨g1, 0, none⟩ = some (.bool neg1) ∧ wA.cell? ⟨g1, 1, none⟩ = some (.slice A1 xs1.length c1) ∧ Below w.heap.size w wA := KC.out _ _ hbA (by assumption); have hnum : num neg1 out = num neg0 xs0 + num neg1 xs1 := (num_diff (Ne.symm hne) hval).trans (Int.add_comm _ _)))
    all_goals go_wp2_with fail
    refine bodyPost_ret (v := .agg #[.bool (decide (num neg0 xs0 + num neg1 xs1 < 0)), .slice Ar (digs (num neg0 xs0 + num neg1 xs1).natAbs).length cr]) (by simp [results, Try.results51, go_sem, u0, u1]) rfl ⟨Ar, cr, rfl, ?_, ?_⟩
    · have h6 := hbA.size
      have h8 := h.size
      (try simp at h6)
      exact ((hor.set_below (by show gr < _; first | omega | (simp; omega)) _).set_below (by show gr < _; first | omega | (simp; omega)) _).le (by first | omega | (simp; omega))
    · exact ((KB.out _ hSB).setCell hgr _).setCell hgr _

set_option maxHeartbeats 4000000 in
set_option maxRecDepth 100000 in
theorem addSigned_any (neg0 : Bool) (A0 : Option Addr) (c0 : Nat) (xs0 : List Int) (neg1 : Bool) (A1 : Option Addr) (c1 : Nat) (xs1 : List Int) (w : World) (_hl0 : xs0.length ≤ 500) (_hr0 : Rd w w.heap.size A0 xs0.length xs0) (_hl1 : xs1.length ≤ 500) (_hr1 : Rd w w.heap.size A1 xs1.length xs1) (hg0x : Rng 0 9999 xs0) (hg1x : Rng 0 9999 xs1) (ht0 : Trimmed xs0) (ht1 : Trimmed xs1) :
    Calls Try.prog 52 #[.agg #[.bool neg0, .slice A0 xs0.length c0], .agg #[.bool neg1, .slice A1 xs1.length c1]] w (GivesRes w w.heap.size (num neg0 xs0 + num neg1 xs1)) := by
  have h : Below w.heap.size w (((w.alloc (.cells #[.bool neg0, .slice A0 xs0.length c0] 27)).alloc (.cells #[.bool neg1, .slice A1 xs1.length c1] 27)).alloc (.cells #[.bool false, .slice none 0 0] 27)) := below_alloc3 _ _ _ _
  have hx0 : Box (((w.alloc (.cells #[.bool neg0, .slice A0 xs0.length c0] 27)).alloc (.cells #[.bool neg1, .slice A1 xs1.length c1] 27)).alloc (.cells #[.bool false, .slice none 0 0] 27)) w.heap.size 27 #[.bool neg0, .slice A0 xs0.length c0] := (Box.new _ _ _).kept (below_alloc2 _ _ _)
  have hx1 : Box (((w.alloc (.cells #[.bool neg0, .slice A0 xs0.length c0] 27)).alloc (.cells #[.bool neg1, .slice A1 xs1.length c1] 27)).alloc (.cells #[.bool false, .slice none 0 0] 27)) (w.heap.size + 1) 27 #[.bool neg1, .slice A1 xs1.length c1] := by
    have := (Box.new (w.alloc (.cells #[.bool neg0, .slice A0 xs0.length c0] 27)) 27 #[.bool neg1, .slice A1 xs1.length c1]).kept (below_alloc1 _ (.cells #[.bool false, .slice none 0 0] 27))
    simpa using this
  have hxr : Box (((w.alloc (.cells #[.bool neg0, .slice A0 xs0.length c0] 27)).alloc (.cells #[.bool neg1, .slice A1 xs1.length c1] 27)).alloc (.cells #[.bool false, .slice none 0 0] 27)) (w.heap.size + 1 + 1) 27 #[.bool false, .slice none 0 0] := by
    have := Box.new ((w.alloc (.cells #[.bool neg0, .slice A0 xs0.length c0] 27)).alloc (.cells #[.bool neg1, .slice A1 xs1.length c1] 27)) 27 #[.bool false, .slice none 0 0]
    simpa using this
  obtain ⟨g0, e0⟩ : ∃ g, g = w.heap.size := ⟨_, rfl⟩
  obtain ⟨g1, e1⟩ : ∃ g, g = w.heap.size + 1 := ⟨_, rfl⟩
  obtain ⟨gr, er⟩ : ∃ g, g = w.heap.size + 1 + 1 := ⟨_, rfl⟩
  have n0 : g0 ≠ gr := by omega
  have n1 : g1 ≠ gr := by omega
  have n01 : g0 ≠ g1 := by omega
  have hgr : w.heap.size ≤ gr := by omega
  have hg0 : w.heap.size ≤ g0 := by omega
  have hg1 : w.heap.size ≤ g1 := by omega
  rw [← er] at hxr
  rw [← e1] at hx1
  rw [← e0] at hx0
  have v0 := val_nonneg hg0x
  have v1 := val_nonneg hg1x
  by_cases hne : neg0 = neg1
  · subst hne
    have eb : (neg0 == neg0) = true := by simp
    have hT : 0 ≤ val xs0 + 1 * val xs1 := by omega
    go_enter Try.func52, Try.ntmps52
    go_wp2_with fail
    rw [← er, ← e1, ← e0]
    clear e0 e1 er
    generalize (((w.alloc (.cells #[.bool neg0, .slice A0 xs0.length c0] 27)).alloc (.cells #[.bool neg0, .slice A1 xs1.length c1] 27)).alloc (.cells #[.bool false, .slice none 0 0] 27)) = w0 at *
    obtain ⟨k00, k01⟩ := hx0.two
    obtain ⟨k10, k11⟩ := hx1.two
    have KS : ∀ (W : World) (i j : Nat) (u v : Value), (W.cell? ⟨g0, 0, none⟩ = some (.bool neg0) ∧ W.cell? ⟨g0, 1, none⟩ = some (.slice A0 xs0.length c0) ∧ W.cell? ⟨g1, 0, none⟩ = some (.bool neg0) ∧ W.cell? ⟨g1, 1, none⟩ = some (.slice A1 xs1.length c1) ∧ Below w.heap.size w W) → (((W.setCell ⟨gr, i, none⟩ u).setCell ⟨gr, j, none⟩ v).cell? ⟨g0, 0, none⟩ = some (.bool neg0) ∧ ((W.setCell ⟨gr, i, none⟩ u).setCell ⟨gr, j, none⟩ v).cell? ⟨g0, 1, none⟩ = some (.slice A0 xs0.length c0) ∧ ((W.setCell ⟨gr, i, none⟩ u).setCell ⟨gr, j, none⟩ v).cell? ⟨g1, 0, none⟩ = some (.bool neg0) ∧ ((W.setCell ⟨gr, i, none⟩ u).setCell ⟨gr, j, none⟩ v).cell? ⟨g1, 1, none⟩ = some (.slice A1 xs1.length c1) ∧ Below w.heap.size w ((W.setCell ⟨gr, i, none⟩ u).setCell ⟨gr, j, none⟩ v)) := fun W i j u v ⟨q0, q1, q2, q3, hW⟩ => ⟨(cell_far n0).trans ((cell_far n0).trans q0), (cell_far n0).trans ((cell_far n0).trans q1), (cell_far n1).trans ((cell_far n1).trans q2), (cell_far n1).trans ((cell_far n1).trans q3), (hW.setCell hgr _).setCell hgr _⟩
    have KC : ∀ (W W' : World), Below W.heap.size W W' → (W.cell? ⟨g0, 0, none⟩ = some (.bool neg0) ∧ W.cell? ⟨g0, 1, none⟩ = some (.slice A0 xs0.length c0) ∧ W.cell? ⟨g1, 0, none⟩ = some (.bool neg0) ∧ W.cell? ⟨g1, 1, none⟩ = some (.slice A1 xs1.length c1) ∧ Below w.heap.size w W) → (W'.cell? ⟨g0, 0, none⟩ = some (.bool neg0) ∧ W'.cell? ⟨g0, 1, none⟩ = some (.slice A0 xs0.length c0) ∧ W'.cell? ⟨g1, 0, none⟩ = some (.bool neg0) ∧ W'.cell? ⟨g1, 1, none⟩ = some (.slice A1 xs1.length c1) ∧ Below w.heap.size w W') := fun W W' hb ⟨q0, q1, q2, q3, hW⟩ => ⟨(hb.cell (p := ⟨g0, 0, none⟩) (World.block_lt_of_cell? W _ q0)).trans q0, (hb.cell (p := ⟨g0, 1, none⟩) (World.block_lt_of_cell? W _ q1)).trans q1, (hb.cell (p := ⟨g1, 0, none⟩) (World.block_lt_of_cell? W _ q2)).trans q2, (hb.cell (p := ⟨g1, 1, none⟩) (World.block_lt_of_cell? W _ q3)).trans q3, Below.step hW hb⟩
    have KB : ∀ (W : World), (W.cell? ⟨g0, 0, none⟩ = some (.bool neg0) ∧ W.cell? ⟨g0, 1, none⟩ = some (.slice A0 xs0.length c0) ∧ W.cell? ⟨g1, 0, none⟩ = some (.bool neg0) ∧ W.cell? ⟨g1, 1, none⟩ = some (.slice A1 xs1.length c1) ∧ Below w.heap.size w W) → Below w.heap.size w W := fun W ⟨_, _, _, _, hW⟩ => hW
    have KM0 : (World.drew w0).cell? ⟨g0, 0, none⟩ = some (.bool neg0) ∧ (World.drew w0).cell? ⟨g0, 1, none⟩ = some (.slice A0 xs0.length c0) ∧ (World.drew w0).cell? ⟨g1, 0, none⟩ = some (.bool neg0) ∧ (World.drew w0).cell? ⟨g1, 1, none⟩ = some (.slice A1 xs1.length c1) ∧ Below w.heap.size w (World.drew w0) := ⟨by assumption, by assumption, by assumption, by assumption, ⟨h.os, h.tape, h.output, h.size, h.block⟩⟩
    have hgt := hxr.lt
    replace KS := Lib.hid KS
    replace KC := Lib.hid KC
    replace KB := Lib.hid KB
    go_region_held3 (fun w' => w'.cell? ⟨g0, 0, none⟩ = some (.bool neg0) ∧ w'.cell? ⟨g0, 1, none⟩ = some (.slice A0 xs0.length c0) ∧ w'.cell? ⟨g1, 0, none⟩ = some (.bool neg0) ∧ w'.cell? ⟨g1, 1, none⟩ = some (.slice A1 xs1.length c1) ∧ Below w.heap.size w w') ((first | assumption | (apply KC.out; assumption; assumption) | (refine KS.out _ _ _ _ _ ?_; assumption)))
      (first
        | (go_at_call 47; (with_reducible refine (wholeWith_any neg0 _ _ _ out _ hlenO hoA hRng).mono ?_); skip; (rw [hnum]); rintro e wB ⟨Ar, cr, rfl, hor, hbB⟩; have hSB : wB.cell? ⟨g0, 0, none⟩ = some (.bool neg0) ∧ wB.cell? ⟨g0, 1, none⟩ = some (.slice A0 xs0.length c0) ∧ wB.cell? ⟨g1, 0, none⟩ = some (.bool neg0) ∧ wB.cell? ⟨g1, 1, none⟩ = some (.slice A1 xs1.length c1) ∧ Below w.heap.size w wB := KC.out _ _ hbB (by assumption); have hxB := (hxr.kept (w' := wA) ⟨hbA.os, hbA.tape, hbA.output, hbA.size, hbA.block⟩).kept hbB; obtain ⟨u0, u1⟩ := hxB.two; have u2 := hxB.free 0; have u3 := hxB.free 1)
        | (go_at_call 59; (with_reducible refine (combineLimbs_any _ _ _ _ _ _ xs0 xs1 1 _ ?_ ?_ ?_ ?_ ?_ ?_ ?_ ?_).mono ?_); (exact (.inl rfl)); (exact Nat.le_trans _hl0 (by omega)); (exact Nat.le_trans _hl1 (by omega)); (exact _hr0.kept (KB.out _ (by assumption))); (exact _hr1.kept (KB.out _ (by assumption))); (exact hg0x); (exact hg1x); (exact hT); rintro e wA ⟨Ao, co, out, rfl, hoA, hRng, hval, hlenO, hbA⟩; have hSA : wA.cell? ⟨g0, 0, none⟩ = some (.bool neg0) ∧ wA.cell? ⟨g0, 1, none⟩ = some (.slice A0 xs0.length c0) ∧ wA.cell? ⟨g1, 0, none⟩ = some (.bool neg0) ∧ wA.cell? ⟨g1, 1, none⟩ = some (.slice A1 xs1.length c1) ∧ Below w.heap.size w wA := KC.out _ _ hbA (by assumption); have hnum : num neg0 out = num neg0 xs0 + num neg0 xs1 := num_same hval))
    all_goals go_wp2_with fail
    refine bodyPost_ret (v := .tuple #[.agg #[.bool (resNeg (num neg0 xs0 + num neg0 xs1)), .slice Ar (resDigs (num neg0 xs0 + num neg0 xs1)).length cr], .bool (resOk (num neg0 xs0 + num neg0 xs1))]) (by simp [results, Try.results52, go_sem, u0, u1]) rfl ⟨Ar, cr, rfl, ?_, ?_⟩
    · have h6 := hbA.size
      have h8 := h.size
      (try simp at h6)
      exact ((hor.set_below (by show gr < _; first | omega | (simp; omega)) _).set_below (by show gr < _; first | omega | (simp; omega)) _).le (by first | omega | (simp; omega))
    · exact ((KB.out _ hSB).setCell hgr _).setCell hgr _
  have eb : (neg0 == neg1) = false := by simpa using hne
  by_cases hge : val xs1 ≤ val xs0
  · have ho : val xs1 ≤ val xs0 := hge
    have hT : 0 ≤ val xs0 + (-1) * val xs1 := by omega
    have dc : decide (cmpL xs0 xs1 xs0.length xs1.length < 0) = false := by rw [cmpL_trim ht0 ht1 hg0x hg1x]; simp only [decide_eq_false_iff_not]; have := @cmpI_nonneg (val xs0) (val xs1); omega
    go_enter Try.func52, Try.ntmps52
    go_wp2_with fail
    rw [← er, ← e1, ← e0]
    clear e0 e1 er
    generalize (((w.alloc (.cells #[.bool neg0, .slice A0 xs0.length c0] 27)).alloc (.cells #[.bool neg1, .slice A1 xs1.length c1] 27)).alloc (.cells #[.bool false, .slice none 0 0] 27)) = w0 at *
    have cm := Lib.hid (compareLimbs_any A0 A1 xs0.length c0 xs1.length c1 xs0 xs1 w0 (by omega) (by omega) (_hr0.kept h) (_hr1.kept h))
    refine (cm.out).mono ?_
    rintro e w1 ⟨rfl, hb⟩
    clear cm
    replace h := Below.step h hb
    replace hx0 := hx0.kept hb
    replace hx1 := hx1.kept hb
    replace hxr := hxr.kept hb
    clear hb
    obtain ⟨k00, k01⟩ := hx0.two
    obtain ⟨k10, k11⟩ := hx1.two
    go_wp2_with fail
    have KS : ∀ (W : World) (i j : Nat) (u v : Value), (W.cell? ⟨g0, 0, none⟩ = some (.bool neg0) ∧ W.cell? ⟨g0, 1, none⟩ = some (.slice A0 xs0.length c0) ∧ W.cell? ⟨g1, 0, none⟩ = some (.bool neg1) ∧ W.cell? ⟨g1, 1, none⟩ = some (.slice A1 xs1.length c1) ∧ Below w.heap.size w W) → (((W.setCell ⟨gr, i, none⟩ u).setCell ⟨gr, j, none⟩ v).cell? ⟨g0, 0, none⟩ = some (.bool neg0) ∧ ((W.setCell ⟨gr, i, none⟩ u).setCell ⟨gr, j, none⟩ v).cell? ⟨g0, 1, none⟩ = some (.slice A0 xs0.length c0) ∧ ((W.setCell ⟨gr, i, none⟩ u).setCell ⟨gr, j, none⟩ v).cell? ⟨g1, 0, none⟩ = some (.bool neg1) ∧ ((W.setCell ⟨gr, i, none⟩ u).setCell ⟨gr, j, none⟩ v).cell? ⟨g1, 1, none⟩ = some (.slice A1 xs1.length c1) ∧ Below w.heap.size w ((W.setCell ⟨gr, i, none⟩ u).setCell ⟨gr, j, none⟩ v)) := fun W i j u v ⟨q0, q1, q2, q3, hW⟩ => ⟨(cell_far n0).trans ((cell_far n0).trans q0), (cell_far n0).trans ((cell_far n0).trans q1), (cell_far n1).trans ((cell_far n1).trans q2), (cell_far n1).trans ((cell_far n1).trans q3), (hW.setCell hgr _).setCell hgr _⟩
    have KC : ∀ (W W' : World), Below W.heap.size W W' → (W.cell? ⟨g0, 0, none⟩ = some (.bool neg0) ∧ W.cell? ⟨g0, 1, none⟩ = some (.slice A0 xs0.length c0) ∧ W.cell? ⟨g1, 0, none⟩ = some (.bool neg1) ∧ W.cell? ⟨g1, 1, none⟩ = some (.slice A1 xs1.length c1) ∧ Below w.heap.size w W) → (W'.cell? ⟨g0, 0, none⟩ = some (.bool neg0) ∧ W'.cell? ⟨g0, 1, none⟩ = some (.slice A0 xs0.length c0) ∧ W'.cell? ⟨g1, 0, none⟩ = some (.bool neg1) ∧ W'.cell? ⟨g1, 1, none⟩ = some (.slice A1 xs1.length c1) ∧ Below w.heap.size w W') := fun W W' hb ⟨q0, q1, q2, q3, hW⟩ => ⟨(hb.cell (p := ⟨g0, 0, none⟩) (World.block_lt_of_cell? W _ q0)).trans q0, (hb.cell (p := ⟨g0, 1, none⟩) (World.block_lt_of_cell? W _ q1)).trans q1, (hb.cell (p := ⟨g1, 0, none⟩) (World.block_lt_of_cell? W _ q2)).trans q2, (hb.cell (p := ⟨g1, 1, none⟩) (World.block_lt_of_cell? W _ q3)).trans q3, Below.step hW hb⟩
    have KB : ∀ (W : World), (W.cell? ⟨g0, 0, none⟩ = some (.bool neg0) ∧ W.cell? ⟨g0, 1, none⟩ = some (.slice A0 xs0.length c0) ∧ W.cell? ⟨g1, 0, none⟩ = some (.bool neg1) ∧ W.cell? ⟨g1, 1, none⟩ = some (.slice A1 xs1.length c1) ∧ Below w.heap.size w W) → Below w.heap.size w W := fun W ⟨_, _, _, _, hW⟩ => hW
    have KM0 : (World.drew w1).cell? ⟨g0, 0, none⟩ = some (.bool neg0) ∧ (World.drew w1).cell? ⟨g0, 1, none⟩ = some (.slice A0 xs0.length c0) ∧ (World.drew w1).cell? ⟨g1, 0, none⟩ = some (.bool neg1) ∧ (World.drew w1).cell? ⟨g1, 1, none⟩ = some (.slice A1 xs1.length c1) ∧ Below w.heap.size w (World.drew w1) := ⟨by assumption, by assumption, by assumption, by assumption, ⟨h.os, h.tape, h.output, h.size, h.block⟩⟩
    have hgt := hxr.lt
    replace KS := Lib.hid KS
    replace KC := Lib.hid KC
    replace KB := Lib.hid KB
    go_region_held3 (fun w' => w'.cell? ⟨g0, 0, none⟩ = some (.bool neg0) ∧ w'.cell? ⟨g0, 1, none⟩ = some (.slice A0 xs0.length c0) ∧ w'.cell? ⟨g1, 0, none⟩ = some (.bool neg1) ∧ w'.cell? ⟨g1, 1, none⟩ = some (.slice A1 xs1.length c1) ∧ Below w.heap.size w w') ((first | assumption | (apply KC.out; assumption; assumption) | (refine KS.out _ _ _ _ _ ?_; assumption)))
      (first
        | (go_at_call 47; (with_reducible refine (wholeWith_any neg0 _ _ _ out _ hlenO hoA hRng).mono ?_); skip; (rw [hnum]); rintro e wB ⟨Ar, cr, rfl, hor, hbB⟩; have hSB : wB.cell? ⟨g0, 0, none⟩ = some (.bool neg0) ∧ wB.cell? ⟨g0, 1, none⟩ = some (.slice A0 xs0.length c0) ∧ wB.cell? ⟨g1, 0, none⟩ = some (.bool neg1) ∧ wB.cell? ⟨g1, 1, none⟩ = some (.slice A1 xs1.length c1) ∧ Below w.heap.size w wB := KC.out _ _ hbB (by assumption); have hxB := (hxr.kept (w' := wA) ⟨hbA.os, hbA.tape, hbA.output, hbA.size, hbA.block⟩).kept hbB; obtain ⟨u0, u1⟩ := hxB.two; have u2 := hxB.free 0; have u3 := hxB.free 1)
        | (go_at_call 59; (with_reducible refine (combineLimbs_any _ _ _ _ _ _ xs0 xs1 (-1) _ ?_ ?_ ?_ ?_ ?_ ?_ ?_ ?_).mono ?_); (exact (.inr rfl)); (exact Nat.le_trans _hl0 (by omega)); (exact Nat.le_trans _hl1 (by omega)); (exact _hr0.kept (KB.out _ (by assumption))); (exact _hr1.kept (KB.out _ (by assumption))); (exact hg0x); (exact hg1x); (exact hT); rintro e wA ⟨Ao, co, out, rfl, hoA, hRng, hval, hlenO, hbA⟩; have hSA : wA.cell? ⟨g0, 0, none⟩ = some (.bool neg0) ∧ wA.cell? ⟨g0, 1, none⟩ = some (.slice A0 xs0.length c0) ∧ wA.cell? ⟨g1, 0, none⟩ = some (.bool neg1) ∧ wA.cell? ⟨g1, 1, none⟩ = some (.slice A1 xs1.length c1) ∧ Below w.heap.size w wA := KC.out _ _ hbA (by assumption); have hnum : num neg0 out = num neg0 xs0 + num neg1 xs1 := num_diff hne hval))
    all_goals go_wp2_with fail
    refine bodyPost_ret (v := .tuple #[.agg #[.bool (resNeg (num neg0 xs0 + num neg1 xs1)), .slice Ar (resDigs (num neg0 xs0 + num neg1 xs1)).length cr], .bool (resOk (num neg0 xs0 + num neg1 xs1))]) (by simp [results, Try.results52, go_sem, u0, u1]) rfl ⟨Ar, cr, rfl, ?_, ?_⟩
    · have h6 := hbA.size
      have h8 := h.size
      (try simp at h6)
      exact ((hor.set_below (by show gr < _; first | omega | (simp; omega)) _).set_below (by show gr < _; first | omega | (simp; omega)) _).le (by first | omega | (simp; omega))
    · exact ((KB.out _ hSB).setCell hgr _).setCell hgr _
  · have ho : val xs0 < val xs1 := by omega
    have hT : 0 ≤ val xs1 + (-1) * val xs0 := by omega
    have dc : decide (cmpL xs0 xs1 xs0.length xs1.length < 0) = true := by rw [cmpL_trim ht0 ht1 hg0x hg1x]; simp only [decide_eq_true_eq]; have := @cmpI_nonneg (val xs0) (val xs1); omega
    go_enter Try.func52, Try.ntmps52
    go_wp2_with fail
    rw [← er, ← e1, ← e0]
    clear e0 e1 er
    generalize (((w.alloc (.cells #[.bool neg0, .slice A0 xs0.length c0] 27)).alloc (.cells #[.bool neg1, .slice A1 xs1.length c1] 27)).alloc (.cells #[.bool false, .slice none 0 0] 27)) = w0 at *
    have cm := Lib.hid (compareLimbs_any A0 A1 xs0.length c0 xs1.length c1 xs0 xs1 w0 (by omega) (by omega) (_hr0.kept h) (_hr1.kept h))
    refine (cm.out).mono ?_
    rintro e w1 ⟨rfl, hb⟩
    clear cm
    replace h := Below.step h hb
    replace hx0 := hx0.kept hb
    replace hx1 := hx1.kept hb
    replace hxr := hxr.kept hb
    clear hb
    obtain ⟨k00, k01⟩ := hx0.two
    obtain ⟨k10, k11⟩ := hx1.two
    have z0 := hx0.free 0
    have z1 := hx0.free 1
    have z2 := hx1.free 0
    have z3 := hx1.free 1
    go_upto_region 5 with fail
    replace hx0 := ((hx0.set 0 (.bool neg1)).set 1 (.slice A1 xs1.length c1)).far (p := ⟨g1, 0, none⟩) n01 (.bool neg0)
    replace hx0 := hx0.far (p := ⟨g1, 1, none⟩) n01 (.slice A0 xs0.length c0)
    replace hx1 := ((((hx1.far (p := ⟨g0, 0, none⟩) (Ne.symm n01) (.bool neg1)).far (p := ⟨g0, 1, none⟩) (Ne.symm n01) (.slice A1 xs1.length c1)).set 0 (.bool neg0)).set 1 (.slice A0 xs0.length c0))
    replace hxr := (((hxr.far (p := ⟨g0, 0, none⟩) (Ne.symm n0) (.bool neg1)).far (p := ⟨g0, 1, none⟩) (Ne.symm n0) (.slice A1 xs1.length c1)).far (p := ⟨g1, 0, none⟩) (Ne.symm n1) (.bool neg0)).far (p := ⟨g1, 1, none⟩) (Ne.symm n1) (.slice A0 xs0.length c0)
    replace h := (((h.setCell (p := ⟨g0, 0, none⟩) hg0 (.bool neg1)).setCell (p := ⟨g0, 1, none⟩) hg0 (.slice A1 xs1.length c1)).setCell (p := ⟨g1, 0, none⟩) hg1 (.bool neg0)).setCell (p := ⟨g1, 1, none⟩) hg1 (.slice A0 xs0.length c0)
    clear k00 k01 k10 k11 z0 z1 z2 z3
    generalize (((w1.setCell ⟨g0, 0, none⟩ (.bool neg1)).setCell ⟨g0, 1, none⟩ (.slice A1 xs1.length c1)).setCell ⟨g1, 0, none⟩ (.bool neg0)).setCell ⟨g1, 1, none⟩ (.slice A0 xs0.length c0) = w2 at *
    simp only [List.setIfInBounds_toArray, List.set_cons_zero, List.set_cons_succ] at hx0 hx1
    obtain ⟨k00, k01⟩ := hx0.two
    obtain ⟨k10, k11⟩ := hx1.two
    have KS : ∀ (W : World) (i j : Nat) (u v : Value), (W.cell? ⟨g0, 0, none⟩ = some (.bool neg1) ∧ W.cell? ⟨g0, 1, none⟩ = some (.slice A1 xs1.length c1) ∧ W.cell? ⟨g1, 0, none⟩ = some (.bool neg0) ∧ W.cell? ⟨g1, 1, none⟩ = some (.slice A0 xs0.length c0) ∧ Below w.heap.size w W) → (((W.setCell ⟨gr, i, none⟩ u).setCell ⟨gr, j, none⟩ v).cell? ⟨g0, 0, none⟩ = some (.bool neg1) ∧ ((W.setCell ⟨gr, i, none⟩ u).setCell ⟨gr, j, none⟩ v).cell? ⟨g0, 1, none⟩ = some (.slice A1 xs1.length c1) ∧ ((W.setCell ⟨gr, i, none⟩ u).setCell ⟨gr, j, none⟩ v).cell? ⟨g1, 0, none⟩ = some (.bool neg0) ∧ ((W.setCell ⟨gr, i, none⟩ u).setCell ⟨gr, j, none⟩ v).cell? ⟨g1, 1, none⟩ = some (.slice A0 xs0.length c0) ∧ Below w.heap.size w ((W.setCell ⟨gr, i, none⟩ u).setCell ⟨gr, j, none⟩ v)) := fun W i j u v ⟨q0, q1, q2, q3, hW⟩ => ⟨(cell_far n0).trans ((cell_far n0).trans q0), (cell_far n0).trans ((cell_far n0).trans q1), (cell_far n1).trans ((cell_far n1).trans q2), (cell_far n1).trans ((cell_far n1).trans q3), (hW.setCell hgr _).setCell hgr _⟩
    have KC : ∀ (W W' : World), Below W.heap.size W W' → (W.cell? ⟨g0, 0, none⟩ = some (.bool neg1) ∧ W.cell? ⟨g0, 1, none⟩ = some (.slice A1 xs1.length c1) ∧ W.cell? ⟨g1, 0, none⟩ = some (.bool neg0) ∧ W.cell? ⟨g1, 1, none⟩ = some (.slice A0 xs0.length c0) ∧ Below w.heap.size w W) → (W'.cell? ⟨g0, 0, none⟩ = some (.bool neg1) ∧ W'.cell? ⟨g0, 1, none⟩ = some (.slice A1 xs1.length c1) ∧ W'.cell? ⟨g1, 0, none⟩ = some (.bool neg0) ∧ W'.cell? ⟨g1, 1, none⟩ = some (.slice A0 xs0.length c0) ∧ Below w.heap.size w W') := fun W W' hb ⟨q0, q1, q2, q3, hW⟩ => ⟨(hb.cell (p := ⟨g0, 0, none⟩) (World.block_lt_of_cell? W _ q0)).trans q0, (hb.cell (p := ⟨g0, 1, none⟩) (World.block_lt_of_cell? W _ q1)).trans q1, (hb.cell (p := ⟨g1, 0, none⟩) (World.block_lt_of_cell? W _ q2)).trans q2, (hb.cell (p := ⟨g1, 1, none⟩) (World.block_lt_of_cell? W _ q3)).trans q3, Below.step hW hb⟩
    have KB : ∀ (W : World), (W.cell? ⟨g0, 0, none⟩ = some (.bool neg1) ∧ W.cell? ⟨g0, 1, none⟩ = some (.slice A1 xs1.length c1) ∧ W.cell? ⟨g1, 0, none⟩ = some (.bool neg0) ∧ W.cell? ⟨g1, 1, none⟩ = some (.slice A0 xs0.length c0) ∧ Below w.heap.size w W) → Below w.heap.size w W := fun W ⟨_, _, _, _, hW⟩ => hW
    have KM0 : (World.drew w2).cell? ⟨g0, 0, none⟩ = some (.bool neg1) ∧ (World.drew w2).cell? ⟨g0, 1, none⟩ = some (.slice A1 xs1.length c1) ∧ (World.drew w2).cell? ⟨g1, 0, none⟩ = some (.bool neg0) ∧ (World.drew w2).cell? ⟨g1, 1, none⟩ = some (.slice A0 xs0.length c0) ∧ Below w.heap.size w (World.drew w2) := ⟨by assumption, by assumption, by assumption, by assumption, ⟨h.os, h.tape, h.output, h.size, h.block⟩⟩
    have hgt := hxr.lt
    replace KS := Lib.hid KS
    replace KC := Lib.hid KC
    replace KB := Lib.hid KB
    go_region_held3 (fun w' => w'.cell? ⟨g0, 0, none⟩ = some (.bool neg1) ∧ w'.cell? ⟨g0, 1, none⟩ = some (.slice A1 xs1.length c1) ∧ w'.cell? ⟨g1, 0, none⟩ = some (.bool neg0) ∧ w'.cell? ⟨g1, 1, none⟩ = some (.slice A0 xs0.length c0) ∧ Below w.heap.size w w') ((first | assumption | (apply KC.out; assumption; assumption) | (refine KS.out _ _ _ _ _ ?_; assumption)))
      (first
        | (go_at_call 47; (with_reducible refine (wholeWith_any neg1 _ _ _ out _ hlenO hoA hRng).mono ?_); skip; (rw [hnum]); rintro e wB ⟨Ar, cr, rfl, hor, hbB⟩; have hSB : wB.cell? ⟨g0, 0, none⟩ = some (.bool neg1) ∧ wB.cell? ⟨g0, 1, none⟩ = some (.slice A1 xs1.length c1) ∧ wB.cell? ⟨g1, 0, none⟩ = some (.bool neg0) ∧ wB.cell? ⟨g1, 1, none⟩ = some (.slice A0 xs0.length c0) ∧ Below w.heap.size w wB := KC.out _ _ hbB (by assumption); have hxB := (hxr.kept (w' := wA) ⟨hbA.os, hbA.tape, hbA.output, hbA.size, hbA.block⟩).kept hbB; obtain ⟨u0, u1⟩ := hxB.two; have u2 := hxB.free 0; have u3 := hxB.free 1)
        | (go_at_call 59; (with_reducible refine (combineLimbs_any _ _ _ _ _ _ xs1 xs0 (-1) _ ?_ ?_ ?_ ?_ ?_ ?_ ?_ ?_).mono ?_); (exact (.inr rfl)); (exact Nat.le_trans _hl1 (by omega)); (exact Nat.le_trans _hl0 (by omega)); (exact _hr1.kept (KB.out _ (by assumption))); (exact _hr0.kept (KB.out _ (by assumption))); (exact hg1x); (exact hg0x); (exact hT); rintro e wA ⟨Ao, co, out, rfl, hoA, hRng, hval, hlenO, hbA⟩; have hSA : wA.cell? ⟨g0, 0, none⟩ = some (.bool neg1) ∧ wA.cell? ⟨g0, 1, none⟩ = some (.slice A1 xs1.length c1) ∧ wA.cell? ⟨g1, 0, none⟩ = some (.bool neg0) ∧ wA.cell? ⟨g1, 1, none⟩ = some (.slice A0 xs0.length c0) ∧ Below w.heap.size w wA := KC.out _ _ hbA (by assumption); have hnum : num neg1 out = num neg0 xs0 + num neg1 xs1 := (num_diff (Ne.symm hne) hval).trans (Int.add_comm _ _)))
    all_goals go_wp2_with fail
    refine bodyPost_ret (v := .tuple #[.agg #[.bool (resNeg (num neg0 xs0 + num neg1 xs1)), .slice Ar (resDigs (num neg0 xs0 + num neg1 xs1)).length cr], .bool (resOk (num neg0 xs0 + num neg1 xs1))]) (by simp [results, Try.results52, go_sem, u0, u1]) rfl ⟨Ar, cr, rfl, ?_, ?_⟩
    · have h6 := hbA.size
      have h8 := h.size
      (try simp at h6)
      exact ((hor.set_below (by show gr < _; first | omega | (simp; omega)) _).set_below (by show gr < _; first | omega | (simp; omega)) _).le (by first | omega | (simp; omega))
    · exact ((KB.out _ hSB).setCell hgr _).setCell hgr _
end Go.Proofs.Ytlkdelhmjjnnnaa
