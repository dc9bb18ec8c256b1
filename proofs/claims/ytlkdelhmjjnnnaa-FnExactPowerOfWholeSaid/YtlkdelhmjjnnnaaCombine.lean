/- Sums and differences of limbs: the model's bgCombine and the program's combineLimbs. -/
import Derived.Test.YtlkdelhmjjnnnaaWholeOf
namespace Go.Proofs.Ytlkdelhmjjnnnaa
open Go.RowKit Go.Joins

theorem comb_step {out xs ys : List Int} {k : Nat} {s c T d c' : Int} (h : valT out (c + val (xs.drop k) + s * val (ys.drop k)) = T) (hd : d + 10000 * c' = xs[k]?.getD 0 + s * ys[k]?.getD 0 + c) :
    valT (out ++ [d]) (c' + val (xs.drop (k + 1)) + s * val (ys.drop (k + 1))) = T := by
  rw [valT_snoc, ← h, val_drop xs k, val_drop ys k]
  congr 1
  have e : s * (ys[k]?.getD 0 + 10000 * val (ys.drop (k + 1))) = s * ys[k]?.getD 0 + 10000 * (s * val (ys.drop (k + 1))) := by rw [Int.mul_add, Int.mul_left_comm]
  rw [e]
  generalize s * val (ys.drop (k + 1)) = q at *
  generalize s * ys[k]?.getD 0 = p at *
  omega

/-- A call that hands back limbs of its own that stand for the number v. -/
def GivesVal (w : World) (v : Int) (e : Ending) (w' : World) : Prop :=
  ∃ A c out, e = .returned (.slice A out.length c) ∧ Own w' w.heap.size (.slice A out.length c) out ∧ Rng 0 9999 out ∧ val out = v ∧ out.length ≤ 4398046511104 ∧ Below w.heap.size w w'

theorem comb_end {out : List Int} {c T : Int} (h : valT out c = T) (hr : Rng 0 9999 out) (hT : 0 ≤ T) : c ≥ 0 := by
  refine Int.not_lt.1 fun hlt => ?_
  have := valT_neg hr (t := c) (by omega)
  omega

set_option maxHeartbeats 4000000 in
theorem bgCombine_any (A B : Option Addr) (n ca m cb : Nat) (xs ys : List Int) (s : Int) (w : World) (hs : s = 1 ∨ s = -1) (hn : n ≤ 1048576) (hm : m ≤ 1048576) (ha : Rd w w.heap.size A n xs) (hb : Rd w w.heap.size B m ys)
    (hx : Rng 0 9999 xs) (hy : Rng 0 9999 ys) (hT : 0 ≤ val xs + s * val ys) :
    Calls Try.prog 74 #[.slice A n ca, .slice B m cb, .int .i64 s] w (GivesVal w (val xs + s * val ys)) := by
  obtain ⟨N, hN⟩ : ∃ N, N = max n m := ⟨_, rfl⟩
  have hNn : n ≤ N := by omega
  have hNm : m ≤ N := by omega
  have hNb : N ≤ 1048576 := by omega
  have hNe : N ≤ n ∨ N ≤ m := by omega
  clear hN
  have hlx : Hid (xs.length = n) := ha.1
  have hly : Hid (ys.length = m) := hb.1
  have hT' := Lib.hid hT
  clear hT
  rcases hs with rfl | rfl
  · go_enter Try.func74, Try.ntmps74
    go_wp2_with fail
    go_loopw [7, 8, 9] (fun v q i wr => ∃ (k : Nat) (c : Int) (D : Option Addr) (d L : Nat) (out : List Int), k ≤ N + 1 ∧ i = .int .i64 k ∧ q = .int .i64 c ∧ v = .slice D L d ∧ Hid (L = out.length ∧ out.length = k) ∧ Own wr w.heap.size (.slice D L d) out ∧ -1 ≤ c ∧ c ≤ 1 ∧ (N < k → c ≤ 0) ∧ Hid (valT out (c + val (xs.drop k) + 1 * val (ys.drop k)) = val xs + 1 * val ys ∧ Rng 0 9999 out) ∧ Below w.heap.size w wr) (fun _ _ i _ => N + 2 - (intOf i).toNat)
    case atStart => exact ⟨0, 0, none, 0, 0, [], by omega, rfl, rfl, rfl, ⟨rfl, rfl⟩, World.ownsRow_nil _ _ _ _, by omega, by omega, fun h => by omega, ⟨by simp [valT], Rng.nil _ _⟩, Below.refl _ _⟩
    case round =>
      obtain ⟨k, c, D, d, L, out, hk, rfl, rfl, rfl, hL, hown, hc0, hc1, hc2, hval, hbl⟩ := hrel
      obtain ⟨rfl, hk2⟩ := hL.out
      replace hk2 := Lib.hid hk2
      have hx9 := hx.at0 k
      have hy9 := hy.at0 k
      obtain ⟨hx1, hx2⟩ := hx9
      obtain ⟨hy1, hy2⟩ := hy9
      have hend : n ≤ k → m ≤ k → 0 ≤ c := fun h1 h2 => by
        obtain ⟨v1, v2⟩ := hval.out
        rw [List.drop_eq_nil_of_le (by rw [hlx.out]; exact h1), List.drop_eq_nil_of_le (by rw [hly.out]; exact h2), val_nil] at v1
        simp at v1
        refine comb_end v1 v2 ?_
        have := hT'.out
        simpa using this
      have cl1 := Lib.hid (bgLimb_any A n ca w.heap.size xs k wr (by omega) (ha.below hbl))
      have cl2 := Lib.hid (bgLimb_any B m cb w.heap.size ys k wr (by omega) (hb.below hbl))
      by_cases hmore : k < n ∨ k < m ∨ c ≠ 0
      · have hkN : k ≤ N := by
          refine Nat.le_of_not_lt fun h => ?_
          have h1 := hc2 h
          have h2 := hend (by omega) (by omega)
          omega
        have hend0 := hend
        clear hc2 hend
        by_cases g1 : k < n
        · clear hmore hend0
          by_cases hneg : xs[k]?.getD 0 + ys[k]?.getD 0 + c < 0
          · have hst : Hid (valT (out ++ [xs[k]?.getD 0 + ys[k]?.getD 0 + c + 10000]) (-1 + val (xs.drop (k + 1)) + 1 * val (ys.drop (k + 1))) = val xs + 1 * val ys ∧ Rng 0 9999 (out ++ [xs[k]?.getD 0 + ys[k]?.getD 0 + c + 10000])) := ⟨comb_step hval.out.1 (by omega), hval.out.2.snoc (by omega)⟩
            have hkc : N < k + 1 → (-1 : Int) ≤ 0 := fun _ => by omega
            clear hval
            have hd1 := Rd.one wr (xs[k]?.getD 0 + ys[k]?.getD 0 + c + 10000) wr.heap.size rfl
            have hown1 := hown.alloc (.cells #[.int .i64 (xs[k]?.getD 0 + ys[k]?.getD 0 + c + 10000)] 3)
            go_wp2_with fail
            refine (cl1.out).mono ?_
            rintro e w1 ⟨rfl, rfl⟩
            go_wp2_with fail
            refine (cl2.out).mono ?_
            rintro e w2 ⟨rfl, rfl⟩
            go_wp2_with (at_builtin; refine wpList_append_rd _ rfl _ _ 22 rfl Try.underlying22 Try.info3 w.heap.size _ out rfl hown1 _ _ _ _ [xs[k]?.getD 0 + ys[k]?.getD 0 + c + 10000] rfl hd1 ?c1 ?c2 ?_)
            case c1 => have := hk2.out; omega
            case c2 => have := hbl.size; simp; omega
            intro D' d' w2 hown2 hg
            have hb2 : Below w.heap.size w w2 := (Below.step hbl (below_alloc1 wr (.cells #[.int .i64 (xs[k]?.getD 0 + ys[k]?.getD 0 + c + 10000)] 3))).grown hg (by have := hbl.size; simp; omega) (fun k hk => (World.ownsRow.lt hown1 k hk).1)
            have hown3 : Hid (Own w2 w.heap.size (.slice D' (out.length + 1) d') (out ++ [xs[k]?.getD 0 + ys[k]?.getD 0 + c + 10000])) := hown2
            have hL3 : Hid (out.length + 1 = (out ++ [xs[k]?.getD 0 + ys[k]?.getD 0 + c + 10000]).length ∧ (out ++ [xs[k]?.getD 0 + ys[k]?.getD 0 + c + 10000]).length = k + 1) := by have := hk2.out; simp [Hid]; omega
            clear hown2 hg hown hown1 hd1 hbl cl1 cl2
            generalize out ++ [xs[k]?.getD 0 + ys[k]?.getD 0 + c + 10000] = out2 at *
            go_wp2
            go_roundw
            case rel => exact ⟨k + 1, -1, D', d', out.length + 1, out2, by omega, by go_num, rfl, rfl, hL3, hown3.out, by omega, by omega, hkc, hst, hb2⟩
            case measure => simp [intOf]; omega
          by_cases hbig : 10000 ≤ xs[k]?.getD 0 + ys[k]?.getD 0 + c
          · have hst : Hid (valT (out ++ [xs[k]?.getD 0 + ys[k]?.getD 0 + c - 10000]) (1 + val (xs.drop (k + 1)) + 1 * val (ys.drop (k + 1))) = val xs + 1 * val ys ∧ Rng 0 9999 (out ++ [xs[k]?.getD 0 + ys[k]?.getD 0 + c - 10000])) := ⟨comb_step hval.out.1 (by omega), hval.out.2.snoc (by omega)⟩
            have dn : decide (xs[k]?.getD 0 + ys[k]?.getD 0 + c < 0) = false := by simp only [decide_eq_false_iff_not]; omega
            have hkc : N < k + 1 → (1 : Int) ≤ 0 := fun _ => by omega
            clear hval hneg
            have hd1 := Rd.one wr (xs[k]?.getD 0 + ys[k]?.getD 0 + c - 10000) wr.heap.size rfl
            have hown1 := hown.alloc (.cells #[.int .i64 (xs[k]?.getD 0 + ys[k]?.getD 0 + c - 10000)] 3)
            go_wp2_with fail
            refine (cl1.out).mono ?_
            rintro e w1 ⟨rfl, rfl⟩
            go_wp2_with fail
            refine (cl2.out).mono ?_
            rintro e w2 ⟨rfl, rfl⟩
            go_wp2_with (at_builtin; refine wpList_append_rd _ rfl _ _ 22 rfl Try.underlying22 Try.info3 w.heap.size _ out rfl hown1 _ _ _ _ [xs[k]?.getD 0 + ys[k]?.getD 0 + c - 10000] rfl hd1 ?c1 ?c2 ?_)
            case c1 => have := hk2.out; omega
            case c2 => have := hbl.size; simp; omega
            intro D' d' w2 hown2 hg
            have hb2 : Below w.heap.size w w2 := (Below.step hbl (below_alloc1 wr (.cells #[.int .i64 (xs[k]?.getD 0 + ys[k]?.getD 0 + c - 10000)] 3))).grown hg (by have := hbl.size; simp; omega) (fun k hk => (World.ownsRow.lt hown1 k hk).1)
            have hown3 : Hid (Own w2 w.heap.size (.slice D' (out.length + 1) d') (out ++ [xs[k]?.getD 0 + ys[k]?.getD 0 + c - 10000])) := hown2
            have hL3 : Hid (out.length + 1 = (out ++ [xs[k]?.getD 0 + ys[k]?.getD 0 + c - 10000]).length ∧ (out ++ [xs[k]?.getD 0 + ys[k]?.getD 0 + c - 10000]).length = k + 1) := by have := hk2.out; simp [Hid]; omega
            clear hown2 hg hown hown1 hd1 hbl cl1 cl2
            generalize out ++ [xs[k]?.getD 0 + ys[k]?.getD 0 + c - 10000] = out2 at *
            go_wp2
            go_roundw
            case rel => exact ⟨k + 1, 1, D', d', out.length + 1, out2, by omega, by go_num, rfl, rfl, hL3, hown3.out, by omega, by omega, hkc, hst, hb2⟩
            case measure => simp [intOf]; omega
          have hst : Hid (valT (out ++ [xs[k]?.getD 0 + ys[k]?.getD 0 + c]) (0 + val (xs.drop (k + 1)) + 1 * val (ys.drop (k + 1))) = val xs + 1 * val ys ∧ Rng 0 9999 (out ++ [xs[k]?.getD 0 + ys[k]?.getD 0 + c])) := ⟨comb_step hval.out.1 (by omega), hval.out.2.snoc (by omega)⟩
          have dn : decide (xs[k]?.getD 0 + ys[k]?.getD 0 + c < 0) = false := by simp only [decide_eq_false_iff_not]; omega
          have db : decide (10000 ≤ xs[k]?.getD 0 + ys[k]?.getD 0 + c) = false := by simp only [decide_eq_false_iff_not]; omega
          have hkc : N < k + 1 → (0 : Int) ≤ 0 := fun _ => by omega
          clear hval hneg hbig
          have hd1 := Rd.one wr (xs[k]?.getD 0 + ys[k]?.getD 0 + c) wr.heap.size rfl
          have hown1 := hown.alloc (.cells #[.int .i64 (xs[k]?.getD 0 + ys[k]?.getD 0 + c)] 3)
          go_wp2_with fail
          refine (cl1.out).mono ?_
          rintro e w1 ⟨rfl, rfl⟩
          go_wp2_with fail
          refine (cl2.out).mono ?_
          rintro e w2 ⟨rfl, rfl⟩
          go_wp2_with (at_builtin; refine wpList_append_rd _ rfl _ _ 22 rfl Try.underlying22 Try.info3 w.heap.size _ out rfl hown1 _ _ _ _ [xs[k]?.getD 0 + ys[k]?.getD 0 + c] rfl hd1 ?c1 ?c2 ?_)
          case c1 => have := hk2.out; omega
          case c2 => have := hbl.size; simp; omega
          intro D' d' w2 hown2 hg
          have hb2 : Below w.heap.size w w2 := (Below.step hbl (below_alloc1 wr (.cells #[.int .i64 (xs[k]?.getD 0 + ys[k]?.getD 0 + c)] 3))).grown hg (by have := hbl.size; simp; omega) (fun k hk => (World.ownsRow.lt hown1 k hk).1)
          have hown3 : Hid (Own w2 w.heap.size (.slice D' (out.length + 1) d') (out ++ [xs[k]?.getD 0 + ys[k]?.getD 0 + c])) := hown2
          have hL3 : Hid (out.length + 1 = (out ++ [xs[k]?.getD 0 + ys[k]?.getD 0 + c]).length ∧ (out ++ [xs[k]?.getD 0 + ys[k]?.getD 0 + c]).length = k + 1) := by have := hk2.out; simp [Hid]; omega
          clear hown2 hg hown hown1 hd1 hbl cl1 cl2
          generalize out ++ [xs[k]?.getD 0 + ys[k]?.getD 0 + c] = out2 at *
          go_wp2
          go_roundw
          case rel => exact ⟨k + 1, 0, D', d', out.length + 1, out2, by omega, by go_num, rfl, rfl, hL3, hown3.out, by omega, by omega, hkc, hst, hb2⟩
          case measure => simp [intOf]; omega
        by_cases g2 : k < m
        · clear hmore hend0
          by_cases hneg : xs[k]?.getD 0 + ys[k]?.getD 0 + c < 0
          · have hst : Hid (valT (out ++ [xs[k]?.getD 0 + ys[k]?.getD 0 + c + 10000]) (-1 + val (xs.drop (k + 1)) + 1 * val (ys.drop (k + 1))) = val xs + 1 * val ys ∧ Rng 0 9999 (out ++ [xs[k]?.getD 0 + ys[k]?.getD 0 + c + 10000])) := ⟨comb_step hval.out.1 (by omega), hval.out.2.snoc (by omega)⟩
            have hkc : N < k + 1 → (-1 : Int) ≤ 0 := fun _ => by omega
            clear hval
            have hd1 := Rd.one wr (xs[k]?.getD 0 + ys[k]?.getD 0 + c + 10000) wr.heap.size rfl
            have hown1 := hown.alloc (.cells #[.int .i64 (xs[k]?.getD 0 + ys[k]?.getD 0 + c + 10000)] 3)
            go_wp2_with fail
            refine (cl1.out).mono ?_
            rintro e w1 ⟨rfl, rfl⟩
            go_wp2_with fail
            refine (cl2.out).mono ?_
            rintro e w2 ⟨rfl, rfl⟩
            go_wp2_with (at_builtin; refine wpList_append_rd _ rfl _ _ 22 rfl Try.underlying22 Try.info3 w.heap.size _ out rfl hown1 _ _ _ _ [xs[k]?.getD 0 + ys[k]?.getD 0 + c + 10000] rfl hd1 ?c1 ?c2 ?_)
            case c1 => have := hk2.out; omega
            case c2 => have := hbl.size; simp; omega
            intro D' d' w2 hown2 hg
            have hb2 : Below w.heap.size w w2 := (Below.step hbl (below_alloc1 wr (.cells #[.int .i64 (xs[k]?.getD 0 + ys[k]?.getD 0 + c + 10000)] 3))).grown hg (by have := hbl.size; simp; omega) (fun k hk => (World.ownsRow.lt hown1 k hk).1)
            have hown3 : Hid (Own w2 w.heap.size (.slice D' (out.length + 1) d') (out ++ [xs[k]?.getD 0 + ys[k]?.getD 0 + c + 10000])) := hown2
            have hL3 : Hid (out.length + 1 = (out ++ [xs[k]?.getD 0 + ys[k]?.getD 0 + c + 10000]).length ∧ (out ++ [xs[k]?.getD 0 + ys[k]?.getD 0 + c + 10000]).length = k + 1) := by have := hk2.out; simp [Hid]; omega
            clear hown2 hg hown hown1 hd1 hbl cl1 cl2
            generalize out ++ [xs[k]?.getD 0 + ys[k]?.getD 0 + c + 10000] = out2 at *
            go_wp2
            go_roundw
            case rel => exact ⟨k + 1, -1, D', d', out.length + 1, out2, by omega, by go_num, rfl, rfl, hL3, hown3.out, by omega, by omega, hkc, hst, hb2⟩
            case measure => simp [intOf]; omega
          by_cases hbig : 10000 ≤ xs[k]?.getD 0 + ys[k]?.getD 0 + c
          · have hst : Hid (valT (out ++ [xs[k]?.getD 0 + ys[k]?.getD 0 + c - 10000]) (1 + val (xs.drop (k + 1)) + 1 * val (ys.drop (k + 1))) = val xs + 1 * val ys ∧ Rng 0 9999 (out ++ [xs[k]?.getD 0 + ys[k]?.getD 0 + c - 10000])) := ⟨comb_step hval.out.1 (by omega), hval.out.2.snoc (by omega)⟩
            have dn : decide (xs[k]?.getD 0 + ys[k]?.getD 0 + c < 0) = false := by simp only [decide_eq_false_iff_not]; omega
            have hkc : N < k + 1 → (1 : Int) ≤ 0 := fun _ => by omega
            clear hval hneg
            have hd1 := Rd.one wr (xs[k]?.getD 0 + ys[k]?.getD 0 + c - 10000) wr.heap.size rfl
            have hown1 := hown.alloc (.cells #[.int .i64 (xs[k]?.getD 0 + ys[k]?.getD 0 + c - 10000)] 3)
            go_wp2_with fail
            refine (cl1.out).mono ?_
            rintro e w1 ⟨rfl, rfl⟩
            go_wp2_with fail
            refine (cl2.out).mono ?_
            rintro e w2 ⟨rfl, rfl⟩
            go_wp2_with (at_builtin; refine wpList_append_rd _ rfl _ _ 22 rfl Try.underlying22 Try.info3 w.heap.size _ out rfl hown1 _ _ _ _ [xs[k]?.getD 0 + ys[k]?.getD 0 + c - 10000] rfl hd1 ?c1 ?c2 ?_)
            case c1 => have := hk2.out; omega
            case c2 => have := hbl.size; simp; omega
            intro D' d' w2 hown2 hg
            have hb2 : Below w.heap.size w w2 := (Below.step hbl (below_alloc1 wr (.cells #[.int .i64 (xs[k]?.getD 0 + ys[k]?.getD 0 + c - 10000)] 3))).grown hg (by have := hbl.size; simp; omega) (fun k hk => (World.ownsRow.lt hown1 k hk).1)
            have hown3 : Hid (Own w2 w.heap.size (.slice D' (out.length + 1) d') (out ++ [xs[k]?.getD 0 + ys[k]?.getD 0 + c - 10000])) := hown2
            have hL3 : Hid (out.length + 1 = (out ++ [xs[k]?.getD 0 + ys[k]?.getD 0 + c - 10000]).length ∧ (out ++ [xs[k]?.getD 0 + ys[k]?.getD 0 + c - 10000]).length = k + 1) := by have := hk2.out; simp [Hid]; omega
            clear hown2 hg hown hown1 hd1 hbl cl1 cl2
            generalize out ++ [xs[k]?.getD 0 + ys[k]?.getD 0 + c - 10000] = out2 at *
            go_wp2
            go_roundw
            case rel => exact ⟨k + 1, 1, D', d', out.length + 1, out2, by omega, by go_num, rfl, rfl, hL3, hown3.out, by omega, by omega, hkc, hst, hb2⟩
            case measure => simp [intOf]; omega
          have hst : Hid (valT (out ++ [xs[k]?.getD 0 + ys[k]?.getD 0 + c]) (0 + val (xs.drop (k + 1)) + 1 * val (ys.drop (k + 1))) = val xs + 1 * val ys ∧ Rng 0 9999 (out ++ [xs[k]?.getD 0 + ys[k]?.getD 0 + c])) := ⟨comb_step hval.out.1 (by omega), hval.out.2.snoc (by omega)⟩
          have dn : decide (xs[k]?.getD 0 + ys[k]?.getD 0 + c < 0) = false := by simp only [decide_eq_false_iff_not]; omega
          have db : decide (10000 ≤ xs[k]?.getD 0 + ys[k]?.getD 0 + c) = false := by simp only [decide_eq_false_iff_not]; omega
          have hkc : N < k + 1 → (0 : Int) ≤ 0 := fun _ => by omega
          clear hval hneg hbig
          have hd1 := Rd.one wr (xs[k]?.getD 0 + ys[k]?.getD 0 + c) wr.heap.size rfl
          have hown1 := hown.alloc (.cells #[.int .i64 (xs[k]?.getD 0 + ys[k]?.getD 0 + c)] 3)
          go_wp2_with fail
          refine (cl1.out).mono ?_
          rintro e w1 ⟨rfl, rfl⟩
          go_wp2_with fail
          refine (cl2.out).mono ?_
          rintro e w2 ⟨rfl, rfl⟩
          go_wp2_with (at_builtin; refine wpList_append_rd _ rfl _ _ 22 rfl Try.underlying22 Try.info3 w.heap.size _ out rfl hown1 _ _ _ _ [xs[k]?.getD 0 + ys[k]?.getD 0 + c] rfl hd1 ?c1 ?c2 ?_)
          case c1 => have := hk2.out; omega
          case c2 => have := hbl.size; simp; omega
          intro D' d' w2 hown2 hg
          have hb2 : Below w.heap.size w w2 := (Below.step hbl (below_alloc1 wr (.cells #[.int .i64 (xs[k]?.getD 0 + ys[k]?.getD 0 + c)] 3))).grown hg (by have := hbl.size; simp; omega) (fun k hk => (World.ownsRow.lt hown1 k hk).1)
          have hown3 : Hid (Own w2 w.heap.size (.slice D' (out.length + 1) d') (out ++ [xs[k]?.getD 0 + ys[k]?.getD 0 + c])) := hown2
          have hL3 : Hid (out.length + 1 = (out ++ [xs[k]?.getD 0 + ys[k]?.getD 0 + c]).length ∧ (out ++ [xs[k]?.getD 0 + ys[k]?.getD 0 + c]).length = k + 1) := by have := hk2.out; simp [Hid]; omega
          clear hown2 hg hown hown1 hd1 hbl cl1 cl2
          generalize out ++ [xs[k]?.getD 0 + ys[k]?.getD 0 + c] = out2 at *
          go_wp2
          go_roundw
          case rel => exact ⟨k + 1, 0, D', d', out.length + 1, out2, by omega, by go_num, rfl, rfl, hL3, hown3.out, by omega, by omega, hkc, hst, hb2⟩
          case measure => simp [intOf]; omega
        have g3 : (c != 0) = true := by rw [bne_iff_ne]; omega
        have z1 : xs[k]?.getD 0 ≤ 0 := by rw [List.getElem?_eq_none (by rw [hlx.out]; omega)]; simp
        have z2 : ys[k]?.getD 0 ≤ 0 := by rw [List.getElem?_eq_none (by rw [hly.out]; omega)]; simp
        have c0 := hend0 (by omega) (by omega)
        clear hmore hend0
        have hst : Hid (valT (out ++ [xs[k]?.getD 0 + ys[k]?.getD 0 + c]) (0 + val (xs.drop (k + 1)) + 1 * val (ys.drop (k + 1))) = val xs + 1 * val ys ∧ Rng 0 9999 (out ++ [xs[k]?.getD 0 + ys[k]?.getD 0 + c])) := ⟨comb_step hval.out.1 (by omega), hval.out.2.snoc (by omega)⟩
        have dn : decide (xs[k]?.getD 0 + ys[k]?.getD 0 + c < 0) = false := by simp only [decide_eq_false_iff_not]; omega
        have db : decide (10000 ≤ xs[k]?.getD 0 + ys[k]?.getD 0 + c) = false := by simp only [decide_eq_false_iff_not]; omega
        have hkc : N < k + 1 → (0 : Int) ≤ 0 := fun _ => by omega
        clear hval
        have hd1 := Rd.one wr (xs[k]?.getD 0 + ys[k]?.getD 0 + c) wr.heap.size rfl
        have hown1 := hown.alloc (.cells #[.int .i64 (xs[k]?.getD 0 + ys[k]?.getD 0 + c)] 3)
        go_wp2_with fail
        refine (cl1.out).mono ?_
        rintro e w1 ⟨rfl, rfl⟩
        go_wp2_with fail
        refine (cl2.out).mono ?_
        rintro e w2 ⟨rfl, rfl⟩
        go_wp2_with (at_builtin; refine wpList_append_rd _ rfl _ _ 22 rfl Try.underlying22 Try.info3 w.heap.size _ out rfl hown1 _ _ _ _ [xs[k]?.getD 0 + ys[k]?.getD 0 + c] rfl hd1 ?c1 ?c2 ?_)
        case c1 => have := hk2.out; omega
        case c2 => have := hbl.size; simp; omega
        intro D' d' w2 hown2 hg
        have hb2 : Below w.heap.size w w2 := (Below.step hbl (below_alloc1 wr (.cells #[.int .i64 (xs[k]?.getD 0 + ys[k]?.getD 0 + c)] 3))).grown hg (by have := hbl.size; simp; omega) (fun k hk => (World.ownsRow.lt hown1 k hk).1)
        have hown3 : Hid (Own w2 w.heap.size (.slice D' (out.length + 1) d') (out ++ [xs[k]?.getD 0 + ys[k]?.getD 0 + c])) := hown2
        have hL3 : Hid (out.length + 1 = (out ++ [xs[k]?.getD 0 + ys[k]?.getD 0 + c]).length ∧ (out ++ [xs[k]?.getD 0 + ys[k]?.getD 0 + c]).length = k + 1) := by have := hk2.out; simp [Hid]; omega
        clear hown2 hg hown hown1 hd1 hbl cl1 cl2
        generalize out ++ [xs[k]?.getD 0 + ys[k]?.getD 0 + c] = out2 at *
        go_wp2
        go_roundw
        case rel => exact ⟨k + 1, 0, D', d', out.length + 1, out2, by omega, by go_num, rfl, rfl, hL3, hown3.out, by omega, by omega, hkc, hst, hb2⟩
        case measure => simp [intOf]; omega
      · have hc : c = 0 := by omega
        have hkn1 : n ≤ k := by omega
        have hkn2 : m ≤ k := by omega
        subst hc
        have e3 : ((0 : Int) != 0) = false := rfl
        have hfin : Hid (val out = val xs + 1 * val ys ∧ Rng 0 9999 out) := by
          obtain ⟨v1, v2⟩ := hval.out
          rw [List.drop_eq_nil_of_le (by rw [hlx.out]; exact hkn1), List.drop_eq_nil_of_le (by rw [hly.out]; exact hkn2), val_nil] at v1
          exact ⟨by simpa [val] using v1, v2⟩
        clear hval cl1 cl2 hend hc2 hmore
        go_wp2
        go_ret
        exact ⟨D, d, out, rfl, hown, hfin.out.2, by have := hfin.out.1; simpa using this, by have := hk2.out; omega, hbl⟩
  · go_enter Try.func74, Try.ntmps74
    go_wp2_with fail
    go_loopw [7, 8, 9] (fun v q i wr => ∃ (k : Nat) (c : Int) (D : Option Addr) (d L : Nat) (out : List Int), k ≤ N + 1 ∧ i = .int .i64 k ∧ q = .int .i64 c ∧ v = .slice D L d ∧ Hid (L = out.length ∧ out.length = k) ∧ Own wr w.heap.size (.slice D L d) out ∧ -1 ≤ c ∧ c ≤ 1 ∧ (N < k → c ≤ 0) ∧ Hid (valT out (c + val (xs.drop k) + (-1) * val (ys.drop k)) = val xs + (-1) * val ys ∧ Rng 0 9999 out) ∧ Below w.heap.size w wr) (fun _ _ i _ => N + 2 - (intOf i).toNat)
    case atStart => exact ⟨0, 0, none, 0, 0, [], by omega, rfl, rfl, rfl, ⟨rfl, rfl⟩, World.ownsRow_nil _ _ _ _, by omega, by omega, fun h => by omega, ⟨by simp [valT], Rng.nil _ _⟩, Below.refl _ _⟩
    case round =>
      obtain ⟨k, c, D, d, L, out, hk, rfl, rfl, rfl, hL, hown, hc0, hc1, hc2, hval, hbl⟩ := hrel
      obtain ⟨rfl, hk2⟩ := hL.out
      replace hk2 := Lib.hid hk2
      have hx9 := hx.at0 k
      have hy9 := hy.at0 k
      obtain ⟨hx1, hx2⟩ := hx9
      obtain ⟨hy1, hy2⟩ := hy9
      have hend : n ≤ k → m ≤ k → 0 ≤ c := fun h1 h2 => by
        obtain ⟨v1, v2⟩ := hval.out
        rw [List.drop_eq_nil_of_le (by rw [hlx.out]; exact h1), List.drop_eq_nil_of_le (by rw [hly.out]; exact h2), val_nil] at v1
        simp at v1
        refine comb_end v1 v2 ?_
        have := hT'.out
        simpa using this
      have cl1 := Lib.hid (bgLimb_any A n ca w.heap.size xs k wr (by omega) (ha.below hbl))
      have cl2 := Lib.hid (bgLimb_any B m cb w.heap.size ys k wr (by omega) (hb.below hbl))
      by_cases hmore : k < n ∨ k < m ∨ c ≠ 0
      · have hkN : k ≤ N := by
          refine Nat.le_of_not_lt fun h => ?_
          have h1 := hc2 h
          have h2 := hend (by omega) (by omega)
          omega
        have hend0 := hend
        clear hc2 hend
        by_cases g1 : k < n
        · clear hmore hend0
          by_cases hneg : xs[k]?.getD 0 + -ys[k]?.getD 0 + c < 0
          · have hst : Hid (valT (out ++ [xs[k]?.getD 0 + -ys[k]?.getD 0 + c + 10000]) (-1 + val (xs.drop (k + 1)) + (-1) * val (ys.drop (k + 1))) = val xs + (-1) * val ys ∧ Rng 0 9999 (out ++ [xs[k]?.getD 0 + -ys[k]?.getD 0 + c + 10000])) := ⟨comb_step hval.out.1 (by omega), hval.out.2.snoc (by omega)⟩
            have hkc : N < k + 1 → (-1 : Int) ≤ 0 := fun _ => by omega
            clear hval
            have hd1 := Rd.one wr (xs[k]?.getD 0 + -ys[k]?.getD 0 + c + 10000) wr.heap.size rfl
            have hown1 := hown.alloc (.cells #[.int .i64 (xs[k]?.getD 0 + -ys[k]?.getD 0 + c + 10000)] 3)
            go_wp2_with fail
            refine (cl1.out).mono ?_
            rintro e w1 ⟨rfl, rfl⟩
            go_wp2_with fail
            refine (cl2.out).mono ?_
            rintro e w2 ⟨rfl, rfl⟩
            go_wp2_with (at_builtin; refine wpList_append_rd _ rfl _ _ 22 rfl Try.underlying22 Try.info3 w.heap.size _ out rfl hown1 _ _ _ _ [xs[k]?.getD 0 + -ys[k]?.getD 0 + c + 10000] rfl hd1 ?c1 ?c2 ?_)
            case c1 => have := hk2.out; omega
            case c2 => have := hbl.size; simp; omega
            intro D' d' w2 hown2 hg
            have hb2 : Below w.heap.size w w2 := (Below.step hbl (below_alloc1 wr (.cells #[.int .i64 (xs[k]?.getD 0 + -ys[k]?.getD 0 + c + 10000)] 3))).grown hg (by have := hbl.size; simp; omega) (fun k hk => (World.ownsRow.lt hown1 k hk).1)
            have hown3 : Hid (Own w2 w.heap.size (.slice D' (out.length + 1) d') (out ++ [xs[k]?.getD 0 + -ys[k]?.getD 0 + c + 10000])) := hown2
            have hL3 : Hid (out.length + 1 = (out ++ [xs[k]?.getD 0 + -ys[k]?.getD 0 + c + 10000]).length ∧ (out ++ [xs[k]?.getD 0 + -ys[k]?.getD 0 + c + 10000]).length = k + 1) := by have := hk2.out; simp [Hid]; omega
            clear hown2 hg hown hown1 hd1 hbl cl1 cl2
            generalize out ++ [xs[k]?.getD 0 + -ys[k]?.getD 0 + c + 10000] = out2 at *
            go_wp2
            go_roundw
            case rel => exact ⟨k + 1, -1, D', d', out.length + 1, out2, by omega, by go_num, rfl, rfl, hL3, hown3.out, by omega, by omega, hkc, hst, hb2⟩
            case measure => simp [intOf]; omega
          by_cases hbig : 10000 ≤ xs[k]?.getD 0 + -ys[k]?.getD 0 + c
          · have hst : Hid (valT (out ++ [xs[k]?.getD 0 + -ys[k]?.getD 0 + c - 10000]) (1 + val (xs.drop (k + 1)) + (-1) * val (ys.drop (k + 1))) = val xs + (-1) * val ys ∧ Rng 0 9999 (out ++ [xs[k]?.getD 0 + -ys[k]?.getD 0 + c - 10000])) := ⟨comb_step hval.out.1 (by omega), hval.out.2.snoc (by omega)⟩
            have dn : decide (xs[k]?.getD 0 + -ys[k]?.getD 0 + c < 0) = false := by simp only [decide_eq_false_iff_not]; omega
            have hkc : N < k + 1 → (1 : Int) ≤ 0 := fun _ => by omega
            clear hval hneg
            have hd1 := Rd.one wr (xs[k]?.getD 0 + -ys[k]?.getD 0 + c - 10000) wr.heap.size rfl
            have hown1 := hown.alloc (.cells #[.int .i64 (xs[k]?.getD 0 + -ys[k]?.getD 0 + c - 10000)] 3)
            go_wp2_with fail
            refine (cl1.out).mono ?_
            rintro e w1 ⟨rfl, rfl⟩
            go_wp2_with fail
            refine (cl2.out).mono ?_
            rintro e w2 ⟨rfl, rfl⟩
            go_wp2_with (at_builtin; refine wpList_append_rd _ rfl _ _ 22 rfl Try.underlying22 Try.info3 w.heap.size _ out rfl hown1 _ _ _ _ [xs[k]?.getD 0 + -ys[k]?.getD 0 + c - 10000] rfl hd1 ?c1 ?c2 ?_)
            case c1 => have := hk2.out; omega
            case c2 => have := hbl.size; simp; omega
            intro D' d' w2 hown2 hg
            have hb2 : Below w.heap.size w w2 := (Below.step hbl (below_alloc1 wr (.cells #[.int .i64 (xs[k]?.getD 0 + -ys[k]?.getD 0 + c - 10000)] 3))).grown hg (by have := hbl.size; simp; omega) (fun k hk => (World.ownsRow.lt hown1 k hk).1)
            have hown3 : Hid (Own w2 w.heap.size (.slice D' (out.length + 1) d') (out ++ [xs[k]?.getD 0 + -ys[k]?.getD 0 + c - 10000])) := hown2
            have hL3 : Hid (out.length + 1 = (out ++ [xs[k]?.getD 0 + -ys[k]?.getD 0 + c - 10000]).length ∧ (out ++ [xs[k]?.getD 0 + -ys[k]?.getD 0 + c - 10000]).length = k + 1) := by have := hk2.out; simp [Hid]; omega
            clear hown2 hg hown hown1 hd1 hbl cl1 cl2
            generalize out ++ [xs[k]?.getD 0 + -ys[k]?.getD 0 + c - 10000] = out2 at *
            go_wp2
            go_roundw
            case rel => exact ⟨k + 1, 1, D', d', out.length + 1, out2, by omega, by go_num, rfl, rfl, hL3, hown3.out, by omega, by omega, hkc, hst, hb2⟩
            case measure => simp [intOf]; omega
          have hst : Hid (valT (out ++ [xs[k]?.getD 0 + -ys[k]?.getD 0 + c]) (0 + val (xs.drop (k + 1)) + (-1) * val (ys.drop (k + 1))) = val xs + (-1) * val ys ∧ Rng 0 9999 (out ++ [xs[k]?.getD 0 + -ys[k]?.getD 0 + c])) := ⟨comb_step hval.out.1 (by omega), hval.out.2.snoc (by omega)⟩
          have dn : decide (xs[k]?.getD 0 + -ys[k]?.getD 0 + c < 0) = false := by simp only [decide_eq_false_iff_not]; omega
          have db : decide (10000 ≤ xs[k]?.getD 0 + -ys[k]?.getD 0 + c) = false := by simp only [decide_eq_false_iff_not]; omega
          have hkc : N < k + 1 → (0 : Int) ≤ 0 := fun _ => by omega
          clear hval hneg hbig
          have hd1 := Rd.one wr (xs[k]?.getD 0 + -ys[k]?.getD 0 + c) wr.heap.size rfl
          have hown1 := hown.alloc (.cells #[.int .i64 (xs[k]?.getD 0 + -ys[k]?.getD 0 + c)] 3)
          go_wp2_with fail
          refine (cl1.out).mono ?_
          rintro e w1 ⟨rfl, rfl⟩
          go_wp2_with fail
          refine (cl2.out).mono ?_
          rintro e w2 ⟨rfl, rfl⟩
          go_wp2_with (at_builtin; refine wpList_append_rd _ rfl _ _ 22 rfl Try.underlying22 Try.info3 w.heap.size _ out rfl hown1 _ _ _ _ [xs[k]?.getD 0 + -ys[k]?.getD 0 + c] rfl hd1 ?c1 ?c2 ?_)
          case c1 => have := hk2.out; omega
          case c2 => have := hbl.size; simp; omega
          intro D' d' w2 hown2 hg
          have hb2 : Below w.heap.size w w2 := (Below.step hbl (below_alloc1 wr (.cells #[.int .i64 (xs[k]?.getD 0 + -ys[k]?.getD 0 + c)] 3))).grown hg (by have := hbl.size; simp; omega) (fun k hk => (World.ownsRow.lt hown1 k hk).1)
          have hown3 : Hid (Own w2 w.heap.size (.slice D' (out.length + 1) d') (out ++ [xs[k]?.getD 0 + -ys[k]?.getD 0 + c])) := hown2
          have hL3 : Hid (out.length + 1 = (out ++ [xs[k]?.getD 0 + -ys[k]?.getD 0 + c]).length ∧ (out ++ [xs[k]?.getD 0 + -ys[k]?.getD 0 + c]).length = k + 1) := by have := hk2.out; simp [Hid]; omega
          clear hown2 hg hown hown1 hd1 hbl cl1 cl2
          generalize out ++ [xs[k]?.getD 0 + -ys[k]?.getD 0 + c] = out2 at *
          go_wp2
          go_roundw
          case rel => exact ⟨k + 1, 0, D', d', out.length + 1, out2, by omega, by go_num, rfl, rfl, hL3, hown3.out, by omega, by omega, hkc, hst, hb2⟩
          case measure => simp [intOf]; omega
        by_cases g2 : k < m
        · clear hmore hend0
          by_cases hneg : xs[k]?.getD 0 + -ys[k]?.getD 0 + c < 0
          · have hst : Hid (valT (out ++ [xs[k]?.getD 0 + -ys[k]?.getD 0 + c + 10000]) (-1 + val (xs.drop (k + 1)) + (-1) * val (ys.drop (k + 1))) = val xs + (-1) * val ys ∧ Rng 0 9999 (out ++ [xs[k]?.getD 0 + -ys[k]?.getD 0 + c + 10000])) := ⟨comb_step hval.out.1 (by omega), hval.out.2.snoc (by omega)⟩
            have hkc : N < k + 1 → (-1 : Int) ≤ 0 := fun _ => by omega
            clear hval
            have hd1 := Rd.one wr (xs[k]?.getD 0 + -ys[k]?.getD 0 + c + 10000) wr.heap.size rfl
            have hown1 := hown.alloc (.cells #[.int .i64 (xs[k]?.getD 0 + -ys[k]?.getD 0 + c + 10000)] 3)
            go_wp2_with fail
            refine (cl1.out).mono ?_
            rintro e w1 ⟨rfl, rfl⟩
            go_wp2_with fail
            refine (cl2.out).mono ?_
            rintro e w2 ⟨rfl, rfl⟩
            go_wp2_with (at_builtin; refine wpList_append_rd _ rfl _ _ 22 rfl Try.underlying22 Try.info3 w.heap.size _ out rfl hown1 _ _ _ _ [xs[k]?.getD 0 + -ys[k]?.getD 0 + c + 10000] rfl hd1 ?c1 ?c2 ?_)
            case c1 => have := hk2.out; omega
            case c2 => have := hbl.size; simp; omega
            intro D' d' w2 hown2 hg
            have hb2 : Below w.heap.size w w2 := (Below.step hbl (below_alloc1 wr (.cells #[.int .i64 (xs[k]?.getD 0 + -ys[k]?.getD 0 + c + 10000)] 3))).grown hg (by have := hbl.size; simp; omega) (fun k hk => (World.ownsRow.lt hown1 k hk).1)
            have hown3 : Hid (Own w2 w.heap.size (.slice D' (out.length + 1) d') (out ++ [xs[k]?.getD 0 + -ys[k]?.getD 0 + c + 10000])) := hown2
            have hL3 : Hid (out.length + 1 = (out ++ [xs[k]?.getD 0 + -ys[k]?.getD 0 + c + 10000]).length ∧ (out ++ [xs[k]?.getD 0 + -ys[k]?.getD 0 + c + 10000]).length = k + 1) := by have := hk2.out; simp [Hid]; omega
            clear hown2 hg hown hown1 hd1 hbl cl1 cl2
            generalize out ++ [xs[k]?.getD 0 + -ys[k]?.getD 0 + c + 10000] = out2 at *
            go_wp2
            go_roundw
            case rel => exact ⟨k + 1, -1, D', d', out.length + 1, out2, by omega, by go_num, rfl, rfl, hL3, hown3.out, by omega, by omega, hkc, hst, hb2⟩
            case measure => simp [intOf]; omega
          by_cases hbig : 10000 ≤ xs[k]?.getD 0 + -ys[k]?.getD 0 + c
          · have hst : Hid (valT (out ++ [xs[k]?.getD 0 + -ys[k]?.getD 0 + c - 10000]) (1 + val (xs.drop (k + 1)) + (-1) * val (ys.drop (k + 1))) = val xs + (-1) * val ys ∧ Rng 0 9999 (out ++ [xs[k]?.getD 0 + -ys[k]?.getD 0 + c - 10000])) := ⟨comb_step hval.out.1 (by omega), hval.out.2.snoc (by omega)⟩
            have dn : decide (xs[k]?.getD 0 + -ys[k]?.getD 0 + c < 0) = false := by simp only [decide_eq_false_iff_not]; omega
            have hkc : N < k + 1 → (1 : Int) ≤ 0 := fun _ => by omega
            clear hval hneg
            have hd1 := Rd.one wr (xs[k]?.getD 0 + -ys[k]?.getD 0 + c - 10000) wr.heap.size rfl
            have hown1 := hown.alloc (.cells #[.int .i64 (xs[k]?.getD 0 + -ys[k]?.getD 0 + c - 10000)] 3)
            go_wp2_with fail
            refine (cl1.out).mono ?_
            rintro e w1 ⟨rfl, rfl⟩
            go_wp2_with fail
            refine (cl2.out).mono ?_
            rintro e w2 ⟨rfl, rfl⟩
            go_wp2_with (at_builtin; refine wpList_append_rd _ rfl _ _ 22 rfl Try.underlying22 Try.info3 w.heap.size _ out rfl hown1 _ _ _ _ [xs[k]?.getD 0 + -ys[k]?.getD 0 + c - 10000] rfl hd1 ?c1 ?c2 ?_)
            case c1 => have := hk2.out; omega
            case c2 => have := hbl.size; simp; omega
            intro D' d' w2 hown2 hg
            have hb2 : Below w.heap.size w w2 := (Below.step hbl (below_alloc1 wr (.cells #[.int .i64 (xs[k]?.getD 0 + -ys[k]?.getD 0 + c - 10000)] 3))).grown hg (by have := hbl.size; simp; omega) (fun k hk => (World.ownsRow.lt hown1 k hk).1)
            have hown3 : Hid (Own w2 w.heap.size (.slice D' (out.length + 1) d') (out ++ [xs[k]?.getD 0 + -ys[k]?.getD 0 + c - 10000])) := hown2
            have hL3 : Hid (out.length + 1 = (out ++ [xs[k]?.getD 0 + -ys[k]?.getD 0 + c - 10000]).length ∧ (out ++ [xs[k]?.getD 0 + -ys[k]?.getD 0 + c - 10000]).length = k + 1) := by have := hk2.out; simp [Hid]; omega
            clear hown2 hg hown hown1 hd1 hbl cl1 cl2
            generalize out ++ [xs[k]?.getD 0 + -ys[k]?.getD 0 + c - 10000] = out2 at *
            go_wp2
            go_roundw
            case rel => exact ⟨k + 1, 1, D', d', out.length + 1, out2, by omega, by go_num, rfl, rfl, hL3, hown3.out, by omega, by omega, hkc, hst, hb2⟩
            case measure => simp [intOf]; omega
          have hst : Hid (valT (out ++ [xs[k]?.getD 0 + -ys[k]?.getD 0 + c]) (0 + val (xs.drop (k + 1)) + (-1) * val (ys.drop (k + 1))) = val xs + (-1) * val ys ∧ Rng 0 9999 (out ++ [xs[k]?.getD 0 + -ys[k]?.getD 0 + c])) := ⟨comb_step hval.out.1 (by omega), hval.out.2.snoc (by omega)⟩
          have dn : decide (xs[k]?.getD 0 + -ys[k]?.getD 0 + c < 0) = false := by simp only [decide_eq_false_iff_not]; omega
          have db : decide (10000 ≤ xs[k]?.getD 0 + -ys[k]?.getD 0 + c) = false := by simp only [decide_eq_false_iff_not]; omega
          have hkc : N < k + 1 → (0 : Int) ≤ 0 := fun _ => by omega
          clear hval hneg hbig
          have hd1 := Rd.one wr (xs[k]?.getD 0 + -ys[k]?.getD 0 + c) wr.heap.size rfl
          have hown1 := hown.alloc (.cells #[.int .i64 (xs[k]?.getD 0 + -ys[k]?.getD 0 + c)] 3)
          go_wp2_with fail
          refine (cl1.out).mono ?_
          rintro e w1 ⟨rfl, rfl⟩
          go_wp2_with fail
          refine (cl2.out).mono ?_
          rintro e w2 ⟨rfl, rfl⟩
          go_wp2_with (at_builtin; refine wpList_append_rd _ rfl _ _ 22 rfl Try.underlying22 Try.info3 w.heap.size _ out rfl hown1 _ _ _ _ [xs[k]?.getD 0 + -ys[k]?.getD 0 + c] rfl hd1 ?c1 ?c2 ?_)
          case c1 => have := hk2.out; omega
          case c2 => have := hbl.size; simp; omega
          intro D' d' w2 hown2 hg
          have hb2 : Below w.heap.size w w2 := (Below.step hbl (below_alloc1 wr (.cells #[.int .i64 (xs[k]?.getD 0 + -ys[k]?.getD 0 + c)] 3))).grown hg (by have := hbl.size; simp; omega) (fun k hk => (World.ownsRow.lt hown1 k hk).1)
          have hown3 : Hid (Own w2 w.heap.size (.slice D' (out.length + 1) d') (out ++ [xs[k]?.getD 0 + -ys[k]?.getD 0 + c])) := hown2
          have hL3 : Hid (out.length + 1 = (out ++ [xs[k]?.getD 0 + -ys[k]?.getD 0 + c]).length ∧ (out ++ [xs[k]?.getD 0 + -ys[k]?.getD 0 + c]).length = k + 1) := by have := hk2.out; simp [Hid]; omega
          clear hown2 hg hown hown1 hd1 hbl cl1 cl2
          generalize out ++ [xs[k]?.getD 0 + -ys[k]?.getD 0 + c] = out2 at *
          go_wp2
          go_roundw
          case rel => exact ⟨k + 1, 0, D', d', out.length + 1, out2, by omega, by go_num, rfl, rfl, hL3, hown3.out, by omega, by omega, hkc, hst, hb2⟩
          case measure => simp [intOf]; omega
        have g3 : (c != 0) = true := by rw [bne_iff_ne]; omega
        have z1 : xs[k]?.getD 0 ≤ 0 := by rw [List.getElem?_eq_none (by rw [hlx.out]; omega)]; simp
        have z2 : ys[k]?.getD 0 ≤ 0 := by rw [List.getElem?_eq_none (by rw [hly.out]; omega)]; simp
        have c0 := hend0 (by omega) (by omega)
        clear hmore hend0
        have hst : Hid (valT (out ++ [xs[k]?.getD 0 + -ys[k]?.getD 0 + c]) (0 + val (xs.drop (k + 1)) + (-1) * val (ys.drop (k + 1))) = val xs + (-1) * val ys ∧ Rng 0 9999 (out ++ [xs[k]?.getD 0 + -ys[k]?.getD 0 + c])) := ⟨comb_step hval.out.1 (by omega), hval.out.2.snoc (by omega)⟩
        have dn : decide (xs[k]?.getD 0 + -ys[k]?.getD 0 + c < 0) = false := by simp only [decide_eq_false_iff_not]; omega
        have db : decide (10000 ≤ xs[k]?.getD 0 + -ys[k]?.getD 0 + c) = false := by simp only [decide_eq_false_iff_not]; omega
        have hkc : N < k + 1 → (0 : Int) ≤ 0 := fun _ => by omega
        clear hval
        have hd1 := Rd.one wr (xs[k]?.getD 0 + -ys[k]?.getD 0 + c) wr.heap.size rfl
        have hown1 := hown.alloc (.cells #[.int .i64 (xs[k]?.getD 0 + -ys[k]?.getD 0 + c)] 3)
        go_wp2_with fail
        refine (cl1.out).mono ?_
        rintro e w1 ⟨rfl, rfl⟩
        go_wp2_with fail
        refine (cl2.out).mono ?_
        rintro e w2 ⟨rfl, rfl⟩
        go_wp2_with (at_builtin; refine wpList_append_rd _ rfl _ _ 22 rfl Try.underlying22 Try.info3 w.heap.size _ out rfl hown1 _ _ _ _ [xs[k]?.getD 0 + -ys[k]?.getD 0 + c] rfl hd1 ?c1 ?c2 ?_)
        case c1 => have := hk2.out; omega
        case c2 => have := hbl.size; simp; omega
        intro D' d' w2 hown2 hg
        have hb2 : Below w.heap.size w w2 := (Below.step hbl (below_alloc1 wr (.cells #[.int .i64 (xs[k]?.getD 0 + -ys[k]?.getD 0 + c)] 3))).grown hg (by have := hbl.size; simp; omega) (fun k hk => (World.ownsRow.lt hown1 k hk).1)
        have hown3 : Hid (Own w2 w.heap.size (.slice D' (out.length + 1) d') (out ++ [xs[k]?.getD 0 + -ys[k]?.getD 0 + c])) := hown2
        have hL3 : Hid (out.length + 1 = (out ++ [xs[k]?.getD 0 + -ys[k]?.getD 0 + c]).length ∧ (out ++ [xs[k]?.getD 0 + -ys[k]?.getD 0 + c]).length = k + 1) := by have := hk2.out; simp [Hid]; omega
        clear hown2 hg hown hown1 hd1 hbl cl1 cl2
        generalize out ++ [xs[k]?.getD 0 + -ys[k]?.getD 0 + c] = out2 at *
        go_wp2
        go_roundw
        case rel => exact ⟨k + 1, 0, D', d', out.length + 1, out2, by omega, by go_num, rfl, rfl, hL3, hown3.out, by omega, by omega, hkc, hst, hb2⟩
        case measure => simp [intOf]; omega
      · have hc : c = 0 := by omega
        have hkn1 : n ≤ k := by omega
        have hkn2 : m ≤ k := by omega
        subst hc
        have e3 : ((0 : Int) != 0) = false := rfl
        have hfin : Hid (val out = val xs + (-1) * val ys ∧ Rng 0 9999 out) := by
          obtain ⟨v1, v2⟩ := hval.out
          rw [List.drop_eq_nil_of_le (by rw [hlx.out]; exact hkn1), List.drop_eq_nil_of_le (by rw [hly.out]; exact hkn2), val_nil] at v1
          exact ⟨by simpa [val] using v1, v2⟩
        clear hval cl1 cl2 hend hc2 hmore
        go_wp2
        go_ret
        exact ⟨D, d, out, rfl, hown, hfin.out.2, by have := hfin.out.1; simpa using this, by have := hk2.out; omega, hbl⟩
end Go.Proofs.Ytlkdelhmjjnnnaa
