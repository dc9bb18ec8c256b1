/- The model's bgOver: a whole divided by a small number, rounded down. -/
import Derived.Test.YtlkdelhmjjnnnaaDivide
namespace Go.Proofs.Ytlkdelhmjjnnnaa
open Go.RowKit Go.Joins

def GivesNumInt (w : World) (z r : Int) (e : Ending) (w' : World) : Prop :=
  ∃ A c, e = .returned (.tuple #[.agg #[.bool (decide (z < 0)), .slice A (digs z.natAbs).length c], .int .i64 r]) ∧ Own w' w.heap.size (.slice A (digs z.natAbs).length c) (digs z.natAbs) ∧ Below w.heap.size w w'

/-- What is kept while a rest is taken from q: q's digits, the result's box, and the old memory. -/
def OverS (w : World) (gr : Nat) (v : Value) (D : List Int) (W : World) : Prop := Own W w.heap.size v D ∧ (∃ a b, Box W gr 27 #[a, b]) ∧ Below w.heap.size w W
theorem OverS.step {w W W' : World} {gr : Nat} {v : Value} {D : List Int} (h : OverS w gr v D W) (hb : Below W.heap.size W W') : OverS w gr v D W' := by
  obtain ⟨h1, ⟨a, b, h2⟩, h3⟩ := h
  exact ⟨h1.kept hb, ⟨a, b, h2.kept hb⟩, Below.step h3 hb⟩
theorem box_set2 {W : World} {gr i : Nat} {u a b : Value} (h : Box W gr 27 #[a, b]) : ∃ a' b', Box (W.setCell ⟨gr, i, none⟩ u) gr 27 #[a', b'] := by
  have h2 := h.set i u
  rcases i with _ | _ | i
  · exact ⟨u, b, h2⟩
  · exact ⟨a, u, h2⟩
  · refine ⟨a, b, ?_⟩
    have : (#[a, b] : Array Value).setIfInBounds (i + 1 + 1) u = #[a, b] := by
      rw [Array.setIfInBounds_eq_of_size_le]; simp
    rw [this] at h2; exact h2
theorem OverS.set {w W : World} {gr : Nat} {v : Value} {D : List Int} (h : OverS w gr v D W) (hg : w.heap.size ≤ gr) (i : Nat) (u : Value) : OverS w gr v D (W.setCell ⟨gr, i, none⟩ u) := by
  obtain ⟨h1, ⟨a, b, h2⟩, h3⟩ := h
  exact ⟨h1.set_box h2 (by decide), box_set2 h2, h3.setCell hg u⟩

theorem floor_pos {V v z r : Int} (h : V = z * v + r) (h0 : 0 ≤ r) (h1 : r < z) : V / z = v ∧ V % z = r := by
  refine ⟨?_, ?_⟩
  · rw [h, Int.add_comm, Int.add_mul_ediv_left _ _ (by omega), Int.ediv_eq_zero_of_lt h0 h1, Int.zero_add]
  · rw [h, Int.add_comm, Int.add_mul_emod_self_left, Int.emod_eq_of_lt h0 h1]
theorem floor_neg {V v z r : Int} (h : V = z * v + r) (h0 : 0 < r) (h1 : r < z) : (-V) / z = -v - 1 ∧ (-V) % z = z - r := by
  refine floor_pos (V := -V) (v := -v - 1) (r := z - r) ?_ (by omega) (by omega)
  rw [h, Int.mul_sub, Int.mul_neg]
  omega
theorem floor_neg0 {V v z : Int} (h : V = z * v + 0) (hz : 0 < z) : (-V) / z = -v ∧ (-V) % z = 0 := by
  refine floor_pos (V := -V) (v := -v) (r := 0) ?_ (by omega) hz
  rw [h, Int.mul_neg]
  omega

set_option maxHeartbeats 4000000 in
set_option maxRecDepth 100000 in
theorem bgOver_any (neg0 : Bool) (A0 : Option Addr) (c0 : Nat) (xs0 : List Int) (z : Int) (w : World) (hl : xs0.length ≤ 400) (hr : Rd w w.heap.size A0 xs0.length xs0) (hg : Rng 0 9999 xs0) (hz0 : 0 < z) (hz1 : z ≤ 1000000000000) :
    ∀ q m, q = num neg0 xs0 / z → m = num neg0 xs0 % z → Calls Try.prog 57 #[.agg #[.bool neg0, .slice A0 xs0.length c0], .int .i64 z] w (GivesNumInt w q m) := by
  intro q m hq hm
  replace hq := Lib.hid hq
  replace hm := Lib.hid hm
  obtain ⟨i0, hi, hi0, hi1, hi2⟩ := info_parts Try.info3
  have h : Below w.heap.size w ((w.alloc (.cells #[.bool neg0, .slice A0 xs0.length c0] 27)).alloc (.cells #[.bool false, .slice none 0 0] 27)) := below_alloc2 _ _ _
  have hx0 : Box ((w.alloc (.cells #[.bool neg0, .slice A0 xs0.length c0] 27)).alloc (.cells #[.bool false, .slice none 0 0] 27)) w.heap.size 27 #[.bool neg0, .slice A0 xs0.length c0] := (Box.new _ _ _).kept (below_alloc1 _ _)
  have hxr : Box ((w.alloc (.cells #[.bool neg0, .slice A0 xs0.length c0] 27)).alloc (.cells #[.bool false, .slice none 0 0] 27)) (w.heap.size + 1) 27 #[.bool false, .slice none 0 0] := by
    have := Box.new (w.alloc (.cells #[.bool neg0, .slice A0 xs0.length c0] 27)) 27 #[.bool false, .slice none 0 0]
    simpa using this
  obtain ⟨n, hn⟩ : ∃ n, n = xs0.length := ⟨_, rfl⟩
  have hn' := Lib.hid hn
  have hnl : n ≤ 400 := by omega
  have hrS := hr.kept h
  rw [← hn] at hrS hx0 hxr h ⊢
  obtain ⟨g0, e0⟩ : ∃ g, g = w.heap.size := ⟨_, rfl⟩
  obtain ⟨gr, er⟩ : ∃ g, g = w.heap.size + 1 := ⟨_, rfl⟩
  have hgr : w.heap.size ≤ gr := by omega
  have n0 : g0 ≠ gr := by omega
  clear hn
  go_enter Try.func57, Try.ntmps57
  go_wp2_with (at_make; refine wpList_make_full _ rfl _ _ 22 rfl (w.heap.size + 1 + 1) 3 i0 (.int .i64 0) 1 Try.underlying22 hi hi0 hi1 .i64 .i64 _ _ n rfl rfl rfl rfl ?c1 ?c2 ?c3 ?_)
  case c1 => rw [hi2]; omega
  case c2 => unfold maxLen; omega
  case c3 => simp
  intro w1 hown1 hg1
  have h0 : Own w1 (w.heap.size + 1 + 1) (.slice (some ⟨w.heap.size + 1 + 1, 0, none⟩) n n) (List.replicate n 0 ++ []) := by
    unfold Own
    have hl0 : (List.replicate n (0 : Int) ++ []).length = n := by simp
    rw [hl0, zeros_made]
    first | exact hown1 | (show World.ownsRow _ _ _ _ _ _ (madeCells #[Value.int .i64 0] (n * 1)).toList; rw [Nat.mul_one]; exact hown1)
  have hb1 : Below (w.heap.size + 1 + 1) ((w.alloc (.cells #[.bool neg0, .slice A0 n c0] 27)).alloc (.cells #[.bool false, .slice none 0 0] 27)) w1 := (Below.refl _ _).grown hg1 (by simp) (fun _ h => by cases h)
  obtain ⟨R, eR⟩ : ∃ g, g = w.heap.size + 1 + 1 := ⟨_, rfl⟩
  rw [← eR, ← er, ← e0]
  rw [← eR] at h0 hb1
  rw [← er] at hxr
  rw [← e0] at hx0
  have hgR : gr < R := by omega
  have hg0R : g0 < R := by omega
  have hRs : R = ((w.alloc (.cells #[.bool neg0, .slice A0 n c0] 27)).alloc (.cells #[.bool false, .slice none 0 0] 27)).heap.size := by simp; omega
  replace hx0 := hx0.keep hb1 hg0R
  replace hxr := hxr.keep hb1 hgR
  replace h := Below.step h (by rw [← hRs]; exact hb1)
  clear hRs eR e0 er hb1 hrS
  clear hown1 hg1 hi hi0 hi1 hi2
  obtain ⟨k0, k1⟩ := hx0.two
  go_wp2_with fail
  have hl' : Hid (xs0.length = n) := by show xs0.length = n; rw [hn'.out]
  go_loopw [7, 8] (fun q i wr => ∃ (k : Nat) (r : Int) (D : List Int), k ≤ n ∧ i = .int .i64 ((k : Int) - 1) ∧ q = .int .i64 r ∧ Hid (D.length + k = n ∧ val (xs0.drop k) = z * val D + r ∧ Rng 0 9999 D) ∧ 0 ≤ r ∧ r < z ∧ Own wr R (.slice (some ⟨R, 0, none⟩) n n) (List.replicate k 0 ++ D) ∧ Box wr g0 27 #[.bool neg0, .slice A0 n c0] ∧ Box wr gr 27 #[.bool false, .slice none 0 0] ∧ Below w.heap.size w wr) (fun _ i _ => (intOf i + 1).toNat)
  case atStart => exact ⟨n, 0, [], Nat.le_refl _, rfl, rfl, ⟨by simp, by rw [List.drop_eq_nil_of_le (by rw [hl'.out]; omega)]; simp [val_nil], Rng.nil _ _⟩, by omega, hz0, h0, hx0, hxr, h⟩
  case round =>
    obtain ⟨k, r, D, hk, rfl, rfl, hv, hr0, hr1, hown, hy0, hyr, hb⟩ := hrel
    clear h0 h hx0 hxr k0 k1
    rcases k with _ | j
    · have hfin : Hid (val xs0 = z * val D + r ∧ Rng 0 9999 D ∧ D.length = n) := by
        obtain ⟨v1, v2, v3⟩ := hv.out
        exact ⟨by simpa using v2, v3, by omega⟩
      have hown2 : Own wr R (.slice (some ⟨R, 0, none⟩) D.length n) D := by
        have h1 := hown
        rw [List.replicate_zero, List.nil_append] at h1
        rw [hfin.out.2.2]; exact h1
      obtain ⟨y, hy⟩ : ∃ y, y = num neg0 D := ⟨_, rfl⟩
      have cm := bgMake_any neg0 (some ⟨R, 0, none⟩) D.length n D wr (by rw [hfin.out.2.2]; omega) (by rw [hfin.out.2.2]; omega) (hown2.rd) hfin.out.2.1
      rw [← hy, hfin.out.2.2] at cm
      replace cm := Lib.hid cm
      replace hy := Lib.hid hy
      have hylen : (digs y.natAbs).length ≤ 500 := by
        have h1 := val_lt hfin.out.2.1
        have h3 := val_nonneg hfin.out.2.1
        have h2 : y.natAbs = (val D).toNat := by rw [hy.out]; unfold num; cases neg0 <;> simp <;> omega
        rw [h2]
        have h4 := digs_len_all h1
        have h5 := hfin.out.2.2
        omega
      clear hown hown2 hv hk
      obtain ⟨k0, k1⟩ := hy0.two
      by_cases hcase : neg0 = true ∧ 0 < r
      · obtain ⟨rfl, hrp⟩ := hcase
        have hqm : Hid (q = y - 1 ∧ m = z - r) := by
          obtain ⟨f1, f2, _⟩ := hfin.out
          obtain ⟨p1, p2⟩ := floor_neg f1 hrp hr1
          refine ⟨?_, ?_⟩
          · rw [hq.out, hy.out]; exact p1
          · rw [hm.out]; exact p2
        obtain ⟨o, ho⟩ : ∃ o : Int, o = 1 := ⟨_, rfl⟩
        have cO : ∀ W, Calls Try.prog 46 #[.int .i64 1] W (GivesNum W o) := fun W => by rw [ho]; exact bgOf_any 1 W (by omega) (by omega)
        have hsub : q = num (decide (y < 0)) (digs y.natAbs) - num (decide (o < 0)) (digs o.natAbs) := by
          rw [digs_neg y _ (digs_rng _) (by rw [digs_val]), digs_neg o _ (digs_rng _) (by rw [digs_val]), ho]; exact hqm.out.1
        have hmr : m = z - r := hqm.out.2
        have hol : (digs o.natAbs).length ≤ 500 := by
          rw [ho]
          have := digs_len_all (k := 1) (n := (1 : Int).natAbs) (by decide)
          omega
        have hzr : IntKind.i64.wrap (z - r) = z - r := IntWalk.i64_in _ (by omega)
        clear hqm hfin ho
        replace cO := Lib.hid cO
        replace hsub := Lib.hid hsub
        go_wp2_with fail
        refine (cm.out).mono ?_
        rintro e w2 ⟨Aq, cq, rfl, hoq, hb2⟩
        obtain ⟨gq, eq⟩ : ∃ g, g = w2.heap.size := ⟨_, rfl⟩
        have hyr2 := (hyr.kept hb2).kept (below_alloc1 w2 (.cells #[.bool (decide (y < 0)), .slice Aq (digs y.natAbs).length cq] 27))
        have hyq2 := Box.new w2 27 #[.bool (decide (y < 0)), .slice Aq (digs y.natAbs).length cq]
        have hy02 := hy0.kept hb2
        have hlt0 := hy02.lt
        have hb3 := Below.step (Below.step hb hb2) (below_alloc1 w2 (.cells #[.bool (decide (y < 0)), .slice Aq (digs y.natAbs).length cq] 27))
        have hoq2 := (hoq.le (base' := w.heap.size) hb.size).alloc (.cells #[.bool (decide (y < 0)), .slice Aq (digs y.natAbs).length cq] 27)
        have hlt := (hyr.kept hb2).lt
        have hgqr : gq ≠ gr := by omega
        obtain ⟨k2, k3⟩ := hy02.two
        clear hb2 k0 k1 hoq
        replace hoq2 := Lib.hid hoq2
        go_wp2_with fail
        rw [← eq] at hyq2 ⊢
        clear k2 k3 hy02 hlt hlt0 eq
        generalize w2.alloc (.cells #[.bool (decide (y < 0)), .slice Aq (digs y.natAbs).length cq] 27) = w3 at *
        obtain ⟨k2, k3⟩ := hyq2.two
        have KS : ∀ (W : World) (i j : Nat) (u v : Value), (W.cell? ⟨gq, 0, none⟩ = some (.bool (decide (y < 0))) ∧ W.cell? ⟨gq, 1, none⟩ = some (.slice Aq (digs y.natAbs).length cq) ∧ OverS w gr (.slice Aq (digs y.natAbs).length cq) (digs y.natAbs) W) → (((W.setCell ⟨gr, i, none⟩ u).setCell ⟨gr, j, none⟩ v).cell? ⟨gq, 0, none⟩ = some (.bool (decide (y < 0))) ∧ ((W.setCell ⟨gr, i, none⟩ u).setCell ⟨gr, j, none⟩ v).cell? ⟨gq, 1, none⟩ = some (.slice Aq (digs y.natAbs).length cq) ∧ OverS w gr (.slice Aq (digs y.natAbs).length cq) (digs y.natAbs) ((W.setCell ⟨gr, i, none⟩ u).setCell ⟨gr, j, none⟩ v)) := fun W i j u v ⟨q0, q1, hW⟩ => ⟨(cell_far hgqr).trans ((cell_far hgqr).trans q0), (cell_far hgqr).trans ((cell_far hgqr).trans q1), (hW.set hgr _ _).set hgr _ _⟩
        have KC : ∀ (W W' : World), Below W.heap.size W W' → (W.cell? ⟨gq, 0, none⟩ = some (.bool (decide (y < 0))) ∧ W.cell? ⟨gq, 1, none⟩ = some (.slice Aq (digs y.natAbs).length cq) ∧ OverS w gr (.slice Aq (digs y.natAbs).length cq) (digs y.natAbs) W) → (W'.cell? ⟨gq, 0, none⟩ = some (.bool (decide (y < 0))) ∧ W'.cell? ⟨gq, 1, none⟩ = some (.slice Aq (digs y.natAbs).length cq) ∧ OverS w gr (.slice Aq (digs y.natAbs).length cq) (digs y.natAbs) W') := fun W W' hb ⟨q0, q1, hW⟩ => ⟨(hb.cell (p := ⟨gq, 0, none⟩) (World.block_lt_of_cell? W _ q0)).trans q0, (hb.cell (p := ⟨gq, 1, none⟩) (World.block_lt_of_cell? W _ q1)).trans q1, hW.step hb⟩
        have KQ : ∀ (W : World), (W.cell? ⟨gq, 0, none⟩ = some (.bool (decide (y < 0))) ∧ W.cell? ⟨gq, 1, none⟩ = some (.slice Aq (digs y.natAbs).length cq) ∧ OverS w gr (.slice Aq (digs y.natAbs).length cq) (digs y.natAbs) W) → Rd W W.heap.size Aq (digs y.natAbs).length (digs y.natAbs) := fun W ⟨_, _, hW⟩ => hW.1.rd
        have KB : ∀ (W : World), (W.cell? ⟨gq, 0, none⟩ = some (.bool (decide (y < 0))) ∧ W.cell? ⟨gq, 1, none⟩ = some (.slice Aq (digs y.natAbs).length cq) ∧ OverS w gr (.slice Aq (digs y.natAbs).length cq) (digs y.natAbs) W) → Below w.heap.size w W := fun W ⟨_, _, hW⟩ => hW.2.2
        have KR : ∀ (W : World), (W.cell? ⟨gq, 0, none⟩ = some (.bool (decide (y < 0))) ∧ W.cell? ⟨gq, 1, none⟩ = some (.slice Aq (digs y.natAbs).length cq) ∧ OverS w gr (.slice Aq (digs y.natAbs).length cq) (digs y.natAbs) W) → ∃ a b, Box W gr 27 #[a, b] := fun W ⟨_, _, hW⟩ => hW.2.1
        have KM0 : (World.drew w3).cell? ⟨gq, 0, none⟩ = some (.bool (decide (y < 0))) ∧ (World.drew w3).cell? ⟨gq, 1, none⟩ = some (.slice Aq (digs y.natAbs).length cq) ∧ OverS w gr (.slice Aq (digs y.natAbs).length cq) (digs y.natAbs) (World.drew w3) := ⟨by assumption, by assumption, hoq2.out, ⟨_, _, hyr2⟩, ⟨hb3.os, hb3.tape, hb3.output, hb3.size, hb3.block⟩⟩
        replace KS := Lib.hid KS
        replace KC := Lib.hid KC
        replace KB := Lib.hid KB
        replace KQ := Lib.hid KQ
        replace KR := Lib.hid KR
        have hcq : (digs y.natAbs).length ≤ cq := hoq2.out.cap
        go_region_held3 (fun w' => w'.cell? ⟨gq, 0, none⟩ = some (.bool (decide (y < 0))) ∧ w'.cell? ⟨gq, 1, none⟩ = some (.slice Aq (digs y.natAbs).length cq) ∧ OverS w gr (.slice Aq (digs y.natAbs).length cq) (digs y.natAbs) w') ((first | assumption | (apply KC.out; assumption; assumption) | (refine KS.out _ _ _ _ _ ?_; assumption)))
          (first
            | (go_at_call 53; (with_reducible refine (bgSub_any (decide (y < 0)) Aq cq (digs y.natAbs) _ _ _ _ _ ?_ ?_ ?_ ?_ ?_ ?_ ?_ q ?_).mono ?_); (exact hylen); (exact KQ.out _ (by assumption)); (exact hol); (exact hoA.cap); (exact hoA.rd); (exact digs_rng _); (exact digs_rng _); (exact hsub.out); rintro e wB ⟨Ar, cr, rfl, hor, hbB⟩; have hSB : wB.cell? ⟨gq, 0, none⟩ = some (.bool (decide (y < 0))) ∧ wB.cell? ⟨gq, 1, none⟩ = some (.slice Aq (digs y.natAbs).length cq) ∧ OverS w gr (.slice Aq (digs y.natAbs).length cq) (digs y.natAbs) wB := KC.out _ _ hbB (by assumption); obtain ⟨ba, bb, hxB⟩ := KR.out _ hSB; obtain ⟨u0, u1⟩ := hxB.two; have u2 := hxB.free 0; have u3 := hxB.free 1)
            | (go_at_call 46; (with_reducible refine (cO.out _).mono ?_); rintro e wA ⟨Ao, co, rfl, hoA, hbA⟩; have hSA : wA.cell? ⟨gq, 0, none⟩ = some (.bool (decide (y < 0))) ∧ wA.cell? ⟨gq, 1, none⟩ = some (.slice Aq (digs y.natAbs).length cq) ∧ OverS w gr (.slice Aq (digs y.natAbs).length cq) (digs y.natAbs) wA := KC.out _ _ hbA (by assumption)))
        all_goals go_wp2_with fail
        refine bodyPost_ret (v := .tuple #[.agg #[.bool (decide (q < 0)), .slice Ar (digs q.natAbs).length cr], .int .i64 (z - r)]) (by simp [results, Try.results57, go_sem, u0, u1]) rfl ?_
        rw [hmr]
        refine ⟨Ar, cr, rfl, ?_, ?_⟩
        · exact (((hor.le (KB.out _ hSA).size).set_box hxB (by decide)).set_box (hxB.set 0 _) (by decide))
        · exact ((KB.out _ hSB).setCell hgr _).setCell hgr _
      · have hqm : Hid (q = y ∧ m = r) := by
          obtain ⟨f1, f2, _⟩ := hfin.out
          cases neg0
          · obtain ⟨p1, p2⟩ := floor_pos f1 hr0 hr1
            exact ⟨by rw [hq.out, hy.out]; exact p1, by rw [hm.out]; exact p2⟩
          · have hr00 : r = 0 := by
              have : ¬ 0 < r := fun h => hcase ⟨rfl, h⟩
              omega
            subst hr00
            obtain ⟨p1, p2⟩ := floor_neg0 f1 hz0
            exact ⟨by rw [hq.out, hy.out]; exact p1, by rw [hm.out]; exact p2⟩
        have hgd : neg0 = false ∨ (neg0 = true ∧ decide (0 < r) = false) := by
          cases neg0
          · exact .inl rfl
          · right
            have : ¬ 0 < r := fun h => hcase ⟨rfl, h⟩
            exact ⟨rfl, by simpa using this⟩
        clear hcase hfin
        rcases hgd with rfl | ⟨rfl, hgd⟩
        all_goals
          go_wp2_with fail
          refine (cm.out).mono ?_
          rintro e w2 ⟨Aq, cq, rfl, hoq, hb2⟩
          have hy02 := hy0.kept hb2
          have hyr2 := hyr.kept hb2
          have hb3 := Below.step hb hb2
          have hlt := hyr2.lt
          have hlt0 := hy02.lt
          have hoq2 := hoq.le (base' := w.heap.size) hb.size
          obtain ⟨k2, k3⟩ := hy02.two
          obtain ⟨k4, k5⟩ := hyr2.two
          have k6 := hyr2.free 0
          have k7 := hyr2.free 1
          clear hb2 k0 k1 hoq
          replace hoq2 := Lib.hid hoq2
          go_wp2_with fail
          refine bodyPost_ret (v := .tuple #[.agg #[.bool (decide (y < 0)), .slice Aq (digs y.natAbs).length cq], .int .i64 r]) (by simp [results, Try.results57, go_sem, k4, k5, hlt]) rfl ?_
          rw [hqm.out.1, hqm.out.2]
          refine ⟨Aq, cq, rfl, ?_, ?_⟩
          · exact ((hoq2.out.set_box hyr2 (by decide)).set_box (hyr2.set 0 _) (by decide)).alloc _
          · exact Below.step ((hb3.setCell hgr _).setCell hgr _) (below_alloc1 _ _)
    · rw [show (((j + 1 : Nat) : Int) - 1) = (j : Int) from by omega]
      obtain ⟨b, o, rfl, hbs, hc⟩ := hr.2 (by rw [hl'.out]; omega)
      have hread : wr.cell? ⟨b, o + j, none⟩ = some (.int .i64 (xs0[j]?.getD 0)) := (hb.cell (p := ⟨b, o + j, none⟩) hbs).trans (hc j (by rw [hl'.out]; omega))
      clear hc
      obtain ⟨k0, k1⟩ := hy0.two
      have hx9 := hg.at0 j
      obtain ⟨hxa, hxb⟩ := hx9
      obtain ⟨s1, s2, s3⟩ := over_step hz0 hv.out.2.1 hr0 hr1 hxa hxb
      have hlr : (List.replicate (j + 1) (0 : Int) ++ D).length = n := by have := hv.out.1; simp; omega
      have hold : wr.cell? ⟨R, j, none⟩ = some (.int .i64 0) := by
        have h1 := hown.rd2 hlr j (by omega)
        rw [h1, List.getElem?_append_left (by simp)]
        simp
      have hfr : wr.frozen? ⟨R, j, none⟩ = false := hown.free2 hlr j
      have hown2 := hown.set (j := j) hlr ((r * 10000 + xs0[j]?.getD 0) / z)
      rw [zeros_set] at hown2
      have hr2 := Int.emod_nonneg (r * 10000 + xs0[j]?.getD 0) (by omega : z ≠ 0)
      have hr3 := Int.emod_lt_of_pos (r * 10000 + xs0[j]?.getD 0) hz0
      have hv2 : Hid (((r * 10000 + xs0[j]?.getD 0) / z :: D).length + j = n ∧ val (xs0.drop j) = z * val ((r * 10000 + xs0[j]?.getD 0) / z :: D) + (r * 10000 + xs0[j]?.getD 0) % z ∧ Rng 0 9999 ((r * 10000 + xs0[j]?.getD 0) / z :: D)) := ⟨by have := hv.out.1; simp; omega, s1, hv.out.2.2.cons ⟨s2, s3⟩⟩
      have hRw : w.heap.size ≤ R := by omega
      have hy02 := hy0.far (p := ⟨R, j, none⟩) (by show g0 ≠ R; omega) (.int .i64 ((r * 10000 + xs0[j]?.getD 0) / z))
      have hyr2 := hyr.far (p := ⟨R, j, none⟩) (by show gr ≠ R; omega) (.int .i64 ((r * 10000 + xs0[j]?.getD 0) / z))
      have hb2 := hb.setCell (p := ⟨R, j, none⟩) hRw (.int .i64 ((r * 10000 + xs0[j]?.getD 0) / z))
      replace hown2 := Lib.hid hown2
      have hlt : j < n := by omega
      clear s1 hv hown hlr hy0 hyr hb
      go_wp2_with fail
      go_roundw
      case rel => exact ⟨j, (r * 10000 + xs0[j]?.getD 0) % z, (r * 10000 + xs0[j]?.getD 0) / z :: D, by omega, rfl, rfl, hv2, hr2, hr3, hown2.out, hy02, hyr2, hb2⟩
      case measure => simp [intOf]
end Go.Proofs.Ytlkdelhmjjnnnaa
