/- The program's combineLimbs: a loop that carries by a closure. -/
import Derived.Test.YtlkdelhmjjnnnaaCombine
namespace Go.Proofs.Ytlkdelhmjjnnnaa
open Go.RowKit Go.Joins

set_option maxHeartbeats 400000 in
theorem newCarry_any (w : World) :
    Calls Try.prog 77 #[] w fun e w' => e = .returned (.func (.func 86) #[] #[.pointer (some ⟨w.heap.size, 0, none⟩)]) ∧ w.alloc (.cells #[.int .i64 0] 3) = w' := by
  have hmf : ∀ (fn : Fn) (first cap : Array Value) (w : World), (Instr.makeFunc fn first cap).run Try.prog w = .ok (.func fn first cap) w := fun _ _ _ _ => rfl
  go_enter Try.func77, Try.ntmps77
  go_wp2
  go_ret
  exact ⟨rfl, rfl⟩

theorem Box.one {w : World} {g : Nat} {t : TypeId} {v : Value} (h : Box w g t #[v]) : w.cell? ⟨g, 0, none⟩ = some v := h.cell 0
theorem Box.far {w : World} {g : Nat} {t : TypeId} {cs : Array Value} (h : Box w g t cs) {p : Addr} (hp : g ≠ p.block) (u : Value) : Box (w.setCell p u) g t cs := (Below.heap_setCell w p u g hp).trans h
theorem wrap_small {x : Int} (h0 : -9223372036854775808 ≤ x) (h1 : x ≤ 9223372036854775807) : wrap64 x = x := IntWalk.wrap64_in x ⟨h0, h1⟩

/-- The limb of a sum and what is over, as the program reckons them. -/
theorem tmod_limb (t : Int) : (if t.tmod 10000 < 0 then t.tmod 10000 + 10000 else t.tmod 10000) = t % 10000 := by
  rcases Int.le_total 0 t with h | h
  · rw [Int.tmod_eq_emod_of_nonneg h]; split <;> omega
  · obtain ⟨u, rfl⟩ : ∃ u, t = -u := ⟨-t, by omega⟩
    rw [Int.neg_tmod, Int.tmod_eq_emod_of_nonneg (by omega : 0 ≤ u)]
    split <;> omega
theorem tdiv_over (t : Int) : (t - t % 10000).tdiv 10000 = t / 10000 := by
  have e : t - t % 10000 = 10000 * (t / 10000) := by omega
  rw [e, Int.mul_tdiv_cancel_left _ (by omega)]

set_option maxHeartbeats 1000000 in
theorem carry_any (g : Nat) (sum over : Int) (w : World) (h : Box w g 3 #[.int .i64 over]) (h0 : -2305843009213693952 ≤ sum) (h1 : sum ≤ 2305843009213693952) (h2 : -2305843009213693952 ≤ over) (h3 : over ≤ 2305843009213693952) :
    Calls Try.prog 86 #[.int .i64 sum, .pointer (some ⟨g, 0, none⟩)] w fun e w' => e = .returned (.int .i64 ((sum + over) % 10000)) ∧ w.setCell ⟨g, 0, none⟩ (.int .i64 ((sum + over) / 10000)) = w' := by
  have k0 := h.one
  have k1 := h.free 0
  have el := tmod_limb (sum + over)
  have ed := tdiv_over (sum + over)
  have hb : (sum + over).tmod 10000 < 10000 ∧ -10000 ≤ (sum + over).tmod 10000 := by
    by_cases hn : (sum + over).tmod 10000 < 0
    · rw [if_pos hn] at el; omega
    · rw [if_neg hn] at el; omega
  obtain ⟨hb1, hb2⟩ := hb
  by_cases hn : (sum + over).tmod 10000 < 0
  · rw [if_pos hn] at el
    replace el := Lib.hid el
    replace ed := Lib.hid ed
    go_enter Try.func86, Try.ntmps86
    go_wp2
    go_ret
    exact ⟨by rw [← el.out]; rfl, by rw [el.out, ed.out]⟩
  · rw [if_neg hn] at el
    replace el := Lib.hid el
    replace ed := Lib.hid ed
    have dn : decide ((sum + over).tmod 10000 < 0) = false := by simp only [decide_eq_false_iff_not]; exact hn
    go_enter Try.func86, Try.ntmps86
    go_wp2
    go_ret
    exact ⟨by rw [← el.out]; rfl, by rw [el.out, ed.out]⟩

set_option maxHeartbeats 400000 in
theorem limbAt_any (A : Option Addr) (n c B : Nat) (xs : List Int) (k : Nat) (w : World) (hn : n ≤ 9223372036854775807) (h : Rd w B A n xs) :
    Calls Try.prog 78 #[.slice A n c, .int .i64 (k : Int)] w fun e w' => e = .returned (.int .i64 (xs[k]?.getD 0)) ∧ w = w' := by
  by_cases hk : k < n
  · obtain ⟨b, o, rfl, hbs, hc⟩ := h.2 (by omega)
    have hread := hc k hk
    clear hc h
    go_enter Try.func78, Try.ntmps78
    go_wp2
    go_ret
    exact ⟨rfl, rfl⟩
  · have e : xs[k]?.getD 0 = 0 := by rw [List.getElem?_eq_none (by rw [h.1]; omega)]; rfl
    rw [e]
    clear h e
    go_enter Try.func78, Try.ntmps78
    go_wp2
    go_ret
    exact ⟨rfl, rfl⟩

/-- While a row of L zeros is filled from its head. -/
def part (out : List Int) (L : Nat) : List Value := out.map (Value.int .i64) ++ List.replicate (L - out.length) (.int .i64 0)
theorem part_nil (L : Nat) : part [] L = (madeCells (Value.int .i64 0).cells (L * 1)).toList := by
  show _ = (madeCells #[Value.int .i64 0] (L * 1)).toList
  rw [toList_madeCells_one]
  simp [part]
theorem part_nil2 (L : Nat) : part [] L = (madeCells #[Value.int .i64 0] L).toList := by
  rw [toList_madeCells_one]
  simp [part]
theorem part_at {out : List Int} {L : Nat} (h : out.length < L) : (part out L)[out.length]? = some (.int .i64 0) := by
  unfold part
  rw [List.getElem?_append_right (by simp)]
  simp [List.getElem?_replicate]
  omega
theorem part_set {out : List Int} {L : Nat} (d : Int) (h : out.length < L) : (part out L).set out.length (.int .i64 d) = part (out ++ [d]) L := by
  unfold part
  rw [List.set_append_right _ _ (by simp), List.map_append, List.append_assoc]
  congr 1
  have h1 : L - out.length = (L - (out ++ [d]).length) + 1 := by simp; omega
  have h2 : out.length - (out.map (Value.int .i64)).length = 0 := by simp
  rw [h1, List.replicate_succ, h2]
  rfl
theorem part_all {out : List Int} {L : Nat} (h : out.length = L) : part out L = out.map (Value.int .i64) := by
  unfold part
  simp [h]

set_option maxHeartbeats 4000000 in
theorem combineLimbs_any (A B : Option Addr) (n ca m cb : Nat) (xs ys : List Int) (s : Int) (w : World) (hs : s = 1 ∨ s = -1) (hn : n ≤ 1048576) (hm : m ≤ 1048576) (ha : Rd w w.heap.size A n xs) (hb : Rd w w.heap.size B m ys)
    (hx : Rng 0 9999 xs) (hy : Rng 0 9999 ys) (hT : 0 ≤ val xs + s * val ys) :
    Calls Try.prog 59 #[.slice A n ca, .slice B m cb, .int .i64 s] w (GivesVal w (val xs + s * val ys)) := by
  obtain ⟨i0, hi, hz0, hz1, hz2⟩ := info_parts Try.info3
  obtain ⟨N, hN⟩ : ∃ N, N = max n m := ⟨_, rfl⟩
  have hNn : n ≤ N := by omega
  have hNm : m ≤ N := by omega
  have hNb : N ≤ 1048576 := by omega
  have hmx : max (n : Int) (m : Int) + 1 = ((N + 1 : Nat) : Int) := by omega
  clear hN
  have hlx : Hid (xs.length = n) := ha.1
  have hly : Hid (ys.length = m) := hb.1
  have hT' := Lib.hid hT
  clear hT
  obtain ⟨L, hL⟩ : ∃ L, L = N + 1 := ⟨_, rfl⟩
  rw [← hL] at hmx
  have hLN : L ≤ N + 1 := by omega
  have hLN2 : N + 1 ≤ L := by omega
  clear hL
  rcases (by omega : m < n ∨ n = m ∨ n < m) with hnm | rfl | hnm
  all_goals (rcases hs with rfl | rfl)
  · have hmk : (n : Int) + 1 = (L : Int) := by omega
    replace hmk := Lib.hid hmk
    go_enter Try.func59, Try.ntmps59
    go_wp2_with (at_make; refine wpList_make_full _ rfl _ _ 22 rfl w.heap.size 3 i0 (.int .i64 0) 1 Try.underlying22 hi hz0 hz1 .i64 .i64 _ _ L rfl rfl ?cL ?cC ?c2 ?c3 (Nat.le_refl _) ?_)
    case cL => exact hmk.out
    case cC => exact hmk.out
    case c2 => rw [hz2]; omega
    case c3 => unfold maxLen; omega
    intro w1 hown1 hg1
    have h0 : w1.ownsRow w.heap.size 3 1 (.slice (some ⟨w.heap.size, 0, none⟩) L L) L (part [] L) := by first | (rw [part_nil]; exact hown1) | (rw [part_nil2]; exact hown1)
    have hb1 : Below w.heap.size w w1 := (Below.refl _ _).grown hg1 (Nat.le_refl _) (fun _ h => by cases h)
    have hlt1 : w.heap.size < w1.heap.size := (World.ownsRow.lt hown1 _ rfl).2
    clear hown1 hg1 hi hz0 hz1 hz2
    go_wp2_with fail
    refine (newCarry_any w1).mono ?_
    rintro e w2 ⟨rfl, rfl⟩
    have hbx := Box.new w1 3 #[.int .i64 0]
    have h2 := h0.alloc (.cells #[.int .i64 0] 3)
    have hb2 := Below.step hb1 (below_alloc1 w1 (.cells #[.int .i64 0] 3))
    obtain ⟨g, hg⟩ : ∃ g, g = w1.heap.size := ⟨_, rfl⟩
    rw [← hg] at hbx hlt1 ⊢
    generalize w1.alloc (.cells #[.int .i64 0] 3) = w3 at *
    clear hg h0 hb1
    have hgc : g ≠ w.heap.size := by omega
    go_wp2_with fail
    go_loopw [20] (fun i wr => ∃ (k : Nat) (c : Int) (out : List Int), k ≤ L ∧ i = .int .i64 k ∧ Hid (out.length = k) ∧ wr.ownsRow w.heap.size 3 1 (.slice (some ⟨w.heap.size, 0, none⟩) L L) L (part out L) ∧ Box wr g 3 #[.int .i64 c] ∧ -1 ≤ c ∧ c ≤ 1 ∧ (N < k → c ≤ 0) ∧ Hid (valT out (c + val (xs.drop k) + 1 * val (ys.drop k)) = val xs + 1 * val ys ∧ Rng 0 9999 out) ∧ Below w.heap.size w wr) (fun i _ => L - (intOf i).toNat)
    case atStart => exact ⟨0, 0, [], by omega, rfl, rfl, h2, hbx, by omega, by omega, fun h => by omega, ⟨by simp [valT], Rng.nil _ _⟩, hb2⟩
    case round =>
      obtain ⟨k, c, out, hk, rfl, hkl, hown, hbo, hc0, hc1, hc2, hval, hbl⟩ := hrel
      clear h2 hbx hb2
      by_cases hlt : k < L
      · have hx9 := hx.at0 k
        have hy9 := hy.at0 k
        obtain ⟨hx1, hx2⟩ := hx9
        obtain ⟨hy1, hy2⟩ := hy9
        have la1 := Lib.hid (limbAt_any A n ca w.heap.size xs k wr (by omega) (ha.below hbl))
        have la2 := Lib.hid (limbAt_any B m cb w.heap.size ys k wr (by omega) (hb.below hbl))
        have hca := Lib.hid (carry_any g (xs[k]?.getD 0 + ys[k]?.getD 0) c wr hbo (by omega) (by omega) (by omega) (by omega))
        have hst : Hid (valT (out ++ [(xs[k]?.getD 0 + ys[k]?.getD 0 + c) % 10000]) ((xs[k]?.getD 0 + ys[k]?.getD 0 + c) / 10000 + val (xs.drop (k + 1)) + 1 * val (ys.drop (k + 1))) = val xs + 1 * val ys ∧ Rng 0 9999 (out ++ [(xs[k]?.getD 0 + ys[k]?.getD 0 + c) % 10000])) := ⟨comb_step hval.out.1 (by omega), hval.out.2.snoc (by omega)⟩
        have hcc : -1 ≤ (xs[k]?.getD 0 + ys[k]?.getD 0 + c) / 10000 ∧ (xs[k]?.getD 0 + ys[k]?.getD 0 + c) / 10000 ≤ 1 ∧ (N < k + 1 → (xs[k]?.getD 0 + ys[k]?.getD 0 + c) / 10000 ≤ 0) := by
          refine ⟨by omega, by omega, fun h => ?_⟩
          have z1 : xs[k]?.getD 0 ≤ 0 := by rw [List.getElem?_eq_none (by rw [hlx.out]; omega)]; simp
          have z2 : ys[k]?.getD 0 ≤ 0 := by rw [List.getElem?_eq_none (by rw [hly.out]; omega)]; simp
          omega
        have hown2 := ownsRow_setCell_other hown (a := ⟨g, 0, none⟩) (by simp [Value.ownBlock]; omega) (.int .i64 ((xs[k]?.getD 0 + ys[k]?.getD 0 + c) / 10000))
        have hold : (wr.setCell ⟨g, 0, none⟩ (.int .i64 ((xs[k]?.getD 0 + ys[k]?.getD 0 + c) / 10000))).cell? ⟨w.heap.size, k, none⟩ = some (.int .i64 0) := by
          rw [hown2.cellAt k (by omega), ← hkl.out]
          exact part_at (by rw [hkl.out]; omega)
        have hfr : (wr.setCell ⟨g, 0, none⟩ (.int .i64 ((xs[k]?.getD 0 + ys[k]?.getD 0 + c) / 10000))).frozen? ⟨w.heap.size, k, none⟩ = false := hown2.frozenAt k
        have hown3 := (hown2.stored k (.int .i64 ((xs[k]?.getD 0 + ys[k]?.getD 0 + c) % 10000))).1
        have hp : (part out L).set k (.int .i64 ((xs[k]?.getD 0 + ys[k]?.getD 0 + c) % 10000)) = part (out ++ [(xs[k]?.getD 0 + ys[k]?.getD 0 + c) % 10000]) L := by
          rw [← hkl.out]
          exact part_set _ (by rw [hkl.out]; omega)
        rw [hp] at hown3
        have hbo2 : Box ((wr.setCell ⟨g, 0, none⟩ (.int .i64 ((xs[k]?.getD 0 + ys[k]?.getD 0 + c) / 10000))).setCell ⟨w.heap.size, k, none⟩ (.int .i64 ((xs[k]?.getD 0 + ys[k]?.getD 0 + c) % 10000))) g 3 #[.int .i64 ((xs[k]?.getD 0 + ys[k]?.getD 0 + c) / 10000)] := (hbo.set 0 _).far hgc _
        have hbl2 : Below w.heap.size w ((wr.setCell ⟨g, 0, none⟩ (.int .i64 ((xs[k]?.getD 0 + ys[k]?.getD 0 + c) / 10000))).setCell ⟨w.heap.size, k, none⟩ (.int .i64 ((xs[k]?.getD 0 + ys[k]?.getD 0 + c) % 10000))) := (hbl.setCell (by show w.heap.size ≤ g; omega) _).setCell (Nat.le_refl _) _
        have hkl2 : Hid ((out ++ [(xs[k]?.getD 0 + ys[k]?.getD 0 + c) % 10000]).length = k + 1) := by have := hkl.out; simp [Hid]; omega
        replace hown3 := Lib.hid hown3
        clear hval hown hown2 hp hbl hc2 hbo
        go_wp2_with fail
        refine (la1.out).mono ?_
        rintro e w4 ⟨rfl, rfl⟩
        go_wp2_with fail
        refine (la2.out).mono ?_
        rintro e w5 ⟨rfl, rfl⟩
        go_wp2_with fail
        refine (hca.out).mono ?_
        rintro e w6 ⟨rfl, rfl⟩
        go_wp2_with fail
        go_roundw
        case rel => exact ⟨k + 1, (xs[k]?.getD 0 + ys[k]?.getD 0 + c) / 10000, out ++ [(xs[k]?.getD 0 + ys[k]?.getD 0 + c) % 10000], by omega, by go_num, hkl2, hown3.out, hbo2, hcc.1, hcc.2.1, hcc.2.2, hst, hbl2⟩
        case measure => simp [intOf]; omega
      · have hkL : k = L := by omega
        have hc2' := hc2 (by omega)
        have hfin : Hid (val out = val xs + 1 * val ys ∧ Rng 0 9999 out) := by
          obtain ⟨v1, v2⟩ := hval.out
          rw [List.drop_eq_nil_of_le (by rw [hlx.out]; omega), List.drop_eq_nil_of_le (by rw [hly.out]; omega), val_nil] at v1
          simp at v1
          have h3 := hT'.out
          have h4 := comb_end v1 v2 (by simpa using h3)
          have h5 : c = 0 := by omega
          subst h5
          exact ⟨by simpa [val] using v1, v2⟩
        have hol : Hid (out.length = L) := by rw [← hkL]; exact hkl.out
        have hown4 : Hid (Own wr w.heap.size (.slice (some ⟨w.heap.size, 0, none⟩) out.length L) out) := by
          show World.ownsRow _ _ _ _ _ _ _
          rw [hol.out, ← part_all hol.out]
          exact hown
        clear hval hown hkL hbo hc2 hc2'
        go_wp2
        go_ret
        exact ⟨_, L, out, by rw [hol.out]; rfl, hown4.out, hfin.out.2, by have := hfin.out.1; simpa using this, by rw [hol.out]; omega, hbl⟩
  · have hmk : (n : Int) + 1 = (L : Int) := by omega
    replace hmk := Lib.hid hmk
    go_enter Try.func59, Try.ntmps59
    go_wp2_with (at_make; refine wpList_make_full _ rfl _ _ 22 rfl w.heap.size 3 i0 (.int .i64 0) 1 Try.underlying22 hi hz0 hz1 .i64 .i64 _ _ L rfl rfl ?cL ?cC ?c2 ?c3 (Nat.le_refl _) ?_)
    case cL => exact hmk.out
    case cC => exact hmk.out
    case c2 => rw [hz2]; omega
    case c3 => unfold maxLen; omega
    intro w1 hown1 hg1
    have h0 : w1.ownsRow w.heap.size 3 1 (.slice (some ⟨w.heap.size, 0, none⟩) L L) L (part [] L) := by first | (rw [part_nil]; exact hown1) | (rw [part_nil2]; exact hown1)
    have hb1 : Below w.heap.size w w1 := (Below.refl _ _).grown hg1 (Nat.le_refl _) (fun _ h => by cases h)
    have hlt1 : w.heap.size < w1.heap.size := (World.ownsRow.lt hown1 _ rfl).2
    clear hown1 hg1 hi hz0 hz1 hz2
    go_wp2_with fail
    refine (newCarry_any w1).mono ?_
    rintro e w2 ⟨rfl, rfl⟩
    have hbx := Box.new w1 3 #[.int .i64 0]
    have h2 := h0.alloc (.cells #[.int .i64 0] 3)
    have hb2 := Below.step hb1 (below_alloc1 w1 (.cells #[.int .i64 0] 3))
    obtain ⟨g, hg⟩ : ∃ g, g = w1.heap.size := ⟨_, rfl⟩
    rw [← hg] at hbx hlt1 ⊢
    generalize w1.alloc (.cells #[.int .i64 0] 3) = w3 at *
    clear hg h0 hb1
    have hgc : g ≠ w.heap.size := by omega
    go_wp2_with fail
    go_loopw [20] (fun i wr => ∃ (k : Nat) (c : Int) (out : List Int), k ≤ L ∧ i = .int .i64 k ∧ Hid (out.length = k) ∧ wr.ownsRow w.heap.size 3 1 (.slice (some ⟨w.heap.size, 0, none⟩) L L) L (part out L) ∧ Box wr g 3 #[.int .i64 c] ∧ -1 ≤ c ∧ c ≤ 1 ∧ (N < k → c ≤ 0) ∧ Hid (valT out (c + val (xs.drop k) + (-1) * val (ys.drop k)) = val xs + (-1) * val ys ∧ Rng 0 9999 out) ∧ Below w.heap.size w wr) (fun i _ => L - (intOf i).toNat)
    case atStart => exact ⟨0, 0, [], by omega, rfl, rfl, h2, hbx, by omega, by omega, fun h => by omega, ⟨by simp [valT], Rng.nil _ _⟩, hb2⟩
    case round =>
      obtain ⟨k, c, out, hk, rfl, hkl, hown, hbo, hc0, hc1, hc2, hval, hbl⟩ := hrel
      clear h2 hbx hb2
      by_cases hlt : k < L
      · have hx9 := hx.at0 k
        have hy9 := hy.at0 k
        obtain ⟨hx1, hx2⟩ := hx9
        obtain ⟨hy1, hy2⟩ := hy9
        have la1 := Lib.hid (limbAt_any A n ca w.heap.size xs k wr (by omega) (ha.below hbl))
        have la2 := Lib.hid (limbAt_any B m cb w.heap.size ys k wr (by omega) (hb.below hbl))
        have hca := Lib.hid (carry_any g (xs[k]?.getD 0 + -ys[k]?.getD 0) c wr hbo (by omega) (by omega) (by omega) (by omega))
        have hst : Hid (valT (out ++ [(xs[k]?.getD 0 + -ys[k]?.getD 0 + c) % 10000]) ((xs[k]?.getD 0 + -ys[k]?.getD 0 + c) / 10000 + val (xs.drop (k + 1)) + (-1) * val (ys.drop (k + 1))) = val xs + (-1) * val ys ∧ Rng 0 9999 (out ++ [(xs[k]?.getD 0 + -ys[k]?.getD 0 + c) % 10000])) := ⟨comb_step hval.out.1 (by omega), hval.out.2.snoc (by omega)⟩
        have hcc : -1 ≤ (xs[k]?.getD 0 + -ys[k]?.getD 0 + c) / 10000 ∧ (xs[k]?.getD 0 + -ys[k]?.getD 0 + c) / 10000 ≤ 1 ∧ (N < k + 1 → (xs[k]?.getD 0 + -ys[k]?.getD 0 + c) / 10000 ≤ 0) := by
          refine ⟨by omega, by omega, fun h => ?_⟩
          have z1 : xs[k]?.getD 0 ≤ 0 := by rw [List.getElem?_eq_none (by rw [hlx.out]; omega)]; simp
          have z2 : ys[k]?.getD 0 ≤ 0 := by rw [List.getElem?_eq_none (by rw [hly.out]; omega)]; simp
          omega
        have hown2 := ownsRow_setCell_other hown (a := ⟨g, 0, none⟩) (by simp [Value.ownBlock]; omega) (.int .i64 ((xs[k]?.getD 0 + -ys[k]?.getD 0 + c) / 10000))
        have hold : (wr.setCell ⟨g, 0, none⟩ (.int .i64 ((xs[k]?.getD 0 + -ys[k]?.getD 0 + c) / 10000))).cell? ⟨w.heap.size, k, none⟩ = some (.int .i64 0) := by
          rw [hown2.cellAt k (by omega), ← hkl.out]
          exact part_at (by rw [hkl.out]; omega)
        have hfr : (wr.setCell ⟨g, 0, none⟩ (.int .i64 ((xs[k]?.getD 0 + -ys[k]?.getD 0 + c) / 10000))).frozen? ⟨w.heap.size, k, none⟩ = false := hown2.frozenAt k
        have hown3 := (hown2.stored k (.int .i64 ((xs[k]?.getD 0 + -ys[k]?.getD 0 + c) % 10000))).1
        have hp : (part out L).set k (.int .i64 ((xs[k]?.getD 0 + -ys[k]?.getD 0 + c) % 10000)) = part (out ++ [(xs[k]?.getD 0 + -ys[k]?.getD 0 + c) % 10000]) L := by
          rw [← hkl.out]
          exact part_set _ (by rw [hkl.out]; omega)
        rw [hp] at hown3
        have hbo2 : Box ((wr.setCell ⟨g, 0, none⟩ (.int .i64 ((xs[k]?.getD 0 + -ys[k]?.getD 0 + c) / 10000))).setCell ⟨w.heap.size, k, none⟩ (.int .i64 ((xs[k]?.getD 0 + -ys[k]?.getD 0 + c) % 10000))) g 3 #[.int .i64 ((xs[k]?.getD 0 + -ys[k]?.getD 0 + c) / 10000)] := (hbo.set 0 _).far hgc _
        have hbl2 : Below w.heap.size w ((wr.setCell ⟨g, 0, none⟩ (.int .i64 ((xs[k]?.getD 0 + -ys[k]?.getD 0 + c) / 10000))).setCell ⟨w.heap.size, k, none⟩ (.int .i64 ((xs[k]?.getD 0 + -ys[k]?.getD 0 + c) % 10000))) := (hbl.setCell (by show w.heap.size ≤ g; omega) _).setCell (Nat.le_refl _) _
        have hkl2 : Hid ((out ++ [(xs[k]?.getD 0 + -ys[k]?.getD 0 + c) % 10000]).length = k + 1) := by have := hkl.out; simp [Hid]; omega
        replace hown3 := Lib.hid hown3
        clear hval hown hown2 hp hbl hc2 hbo
        go_wp2_with fail
        refine (la1.out).mono ?_
        rintro e w4 ⟨rfl, rfl⟩
        go_wp2_with fail
        refine (la2.out).mono ?_
        rintro e w5 ⟨rfl, rfl⟩
        go_wp2_with fail
        refine (hca.out).mono ?_
        rintro e w6 ⟨rfl, rfl⟩
        go_wp2_with fail
        go_roundw
        case rel => exact ⟨k + 1, (xs[k]?.getD 0 + -ys[k]?.getD 0 + c) / 10000, out ++ [(xs[k]?.getD 0 + -ys[k]?.getD 0 + c) % 10000], by omega, by go_num, hkl2, hown3.out, hbo2, hcc.1, hcc.2.1, hcc.2.2, hst, hbl2⟩
        case measure => simp [intOf]; omega
      · have hkL : k = L := by omega
        have hc2' := hc2 (by omega)
        have hfin : Hid (val out = val xs + (-1) * val ys ∧ Rng 0 9999 out) := by
          obtain ⟨v1, v2⟩ := hval.out
          rw [List.drop_eq_nil_of_le (by rw [hlx.out]; omega), List.drop_eq_nil_of_le (by rw [hly.out]; omega), val_nil] at v1
          simp at v1
          have h3 := hT'.out
          have h4 := comb_end v1 v2 (by simpa using h3)
          have h5 : c = 0 := by omega
          subst h5
          exact ⟨by simpa [val] using v1, v2⟩
        have hol : Hid (out.length = L) := by rw [← hkL]; exact hkl.out
        have hown4 : Hid (Own wr w.heap.size (.slice (some ⟨w.heap.size, 0, none⟩) out.length L) out) := by
          show World.ownsRow _ _ _ _ _ _ _
          rw [hol.out, ← part_all hol.out]
          exact hown
        clear hval hown hkL hbo hc2 hc2'
        go_wp2
        go_ret
        exact ⟨_, L, out, by rw [hol.out]; rfl, hown4.out, hfin.out.2, by have := hfin.out.1; simpa using this, by rw [hol.out]; omega, hbl⟩
  · have hmk : (n : Int) + 1 = (L : Int) := by omega
    replace hmk := Lib.hid hmk
    go_enter Try.func59, Try.ntmps59
    go_wp2_with (at_make; refine wpList_make_full _ rfl _ _ 22 rfl w.heap.size 3 i0 (.int .i64 0) 1 Try.underlying22 hi hz0 hz1 .i64 .i64 _ _ L rfl rfl ?cL ?cC ?c2 ?c3 (Nat.le_refl _) ?_)
    case cL => exact hmk.out
    case cC => exact hmk.out
    case c2 => rw [hz2]; omega
    case c3 => unfold maxLen; omega
    intro w1 hown1 hg1
    have h0 : w1.ownsRow w.heap.size 3 1 (.slice (some ⟨w.heap.size, 0, none⟩) L L) L (part [] L) := by first | (rw [part_nil]; exact hown1) | (rw [part_nil2]; exact hown1)
    have hb1 : Below w.heap.size w w1 := (Below.refl _ _).grown hg1 (Nat.le_refl _) (fun _ h => by cases h)
    have hlt1 : w.heap.size < w1.heap.size := (World.ownsRow.lt hown1 _ rfl).2
    clear hown1 hg1 hi hz0 hz1 hz2
    go_wp2_with fail
    refine (newCarry_any w1).mono ?_
    rintro e w2 ⟨rfl, rfl⟩
    have hbx := Box.new w1 3 #[.int .i64 0]
    have h2 := h0.alloc (.cells #[.int .i64 0] 3)
    have hb2 := Below.step hb1 (below_alloc1 w1 (.cells #[.int .i64 0] 3))
    obtain ⟨g, hg⟩ : ∃ g, g = w1.heap.size := ⟨_, rfl⟩
    rw [← hg] at hbx hlt1 ⊢
    generalize w1.alloc (.cells #[.int .i64 0] 3) = w3 at *
    clear hg h0 hb1
    have hgc : g ≠ w.heap.size := by omega
    go_wp2_with fail
    go_loopw [20] (fun i wr => ∃ (k : Nat) (c : Int) (out : List Int), k ≤ L ∧ i = .int .i64 k ∧ Hid (out.length = k) ∧ wr.ownsRow w.heap.size 3 1 (.slice (some ⟨w.heap.size, 0, none⟩) L L) L (part out L) ∧ Box wr g 3 #[.int .i64 c] ∧ -1 ≤ c ∧ c ≤ 1 ∧ (N < k → c ≤ 0) ∧ Hid (valT out (c + val (xs.drop k) + 1 * val (ys.drop k)) = val xs + 1 * val ys ∧ Rng 0 9999 out) ∧ Below w.heap.size w wr) (fun i _ => L - (intOf i).toNat)
    case atStart => exact ⟨0, 0, [], by omega, rfl, rfl, h2, hbx, by omega, by omega, fun h => by omega, ⟨by simp [valT], Rng.nil _ _⟩, hb2⟩
    case round =>
      obtain ⟨k, c, out, hk, rfl, hkl, hown, hbo, hc0, hc1, hc2, hval, hbl⟩ := hrel
      clear h2 hbx hb2
      by_cases hlt : k < L
      · have hx9 := hx.at0 k
        have hy9 := hy.at0 k
        obtain ⟨hx1, hx2⟩ := hx9
        obtain ⟨hy1, hy2⟩ := hy9
        have la1 := Lib.hid (limbAt_any A n ca w.heap.size xs k wr (by omega) (ha.below hbl))
        have la2 := Lib.hid (limbAt_any B n cb w.heap.size ys k wr (by omega) (hb.below hbl))
        have hca := Lib.hid (carry_any g (xs[k]?.getD 0 + ys[k]?.getD 0) c wr hbo (by omega) (by omega) (by omega) (by omega))
        have hst : Hid (valT (out ++ [(xs[k]?.getD 0 + ys[k]?.getD 0 + c) % 10000]) ((xs[k]?.getD 0 + ys[k]?.getD 0 + c) / 10000 + val (xs.drop (k + 1)) + 1 * val (ys.drop (k + 1))) = val xs + 1 * val ys ∧ Rng 0 9999 (out ++ [(xs[k]?.getD 0 + ys[k]?.getD 0 + c) % 10000])) := ⟨comb_step hval.out.1 (by omega), hval.out.2.snoc (by omega)⟩
        have hcc : -1 ≤ (xs[k]?.getD 0 + ys[k]?.getD 0 + c) / 10000 ∧ (xs[k]?.getD 0 + ys[k]?.getD 0 + c) / 10000 ≤ 1 ∧ (N < k + 1 → (xs[k]?.getD 0 + ys[k]?.getD 0 + c) / 10000 ≤ 0) := by
          refine ⟨by omega, by omega, fun h => ?_⟩
          have z1 : xs[k]?.getD 0 ≤ 0 := by rw [List.getElem?_eq_none (by rw [hlx.out]; omega)]; simp
          have z2 : ys[k]?.getD 0 ≤ 0 := by rw [List.getElem?_eq_none (by rw [hly.out]; omega)]; simp
          omega
        have hown2 := ownsRow_setCell_other hown (a := ⟨g, 0, none⟩) (by simp [Value.ownBlock]; omega) (.int .i64 ((xs[k]?.getD 0 + ys[k]?.getD 0 + c) / 10000))
        have hold : (wr.setCell ⟨g, 0, none⟩ (.int .i64 ((xs[k]?.getD 0 + ys[k]?.getD 0 + c) / 10000))).cell? ⟨w.heap.size, k, none⟩ = some (.int .i64 0) := by
          rw [hown2.cellAt k (by omega), ← hkl.out]
          exact part_at (by rw [hkl.out]; omega)
        have hfr : (wr.setCell ⟨g, 0, none⟩ (.int .i64 ((xs[k]?.getD 0 + ys[k]?.getD 0 + c) / 10000))).frozen? ⟨w.heap.size, k, none⟩ = false := hown2.frozenAt k
        have hown3 := (hown2.stored k (.int .i64 ((xs[k]?.getD 0 + ys[k]?.getD 0 + c) % 10000))).1
        have hp : (part out L).set k (.int .i64 ((xs[k]?.getD 0 + ys[k]?.getD 0 + c) % 10000)) = part (out ++ [(xs[k]?.getD 0 + ys[k]?.getD 0 + c) % 10000]) L := by
          rw [← hkl.out]
          exact part_set _ (by rw [hkl.out]; omega)
        rw [hp] at hown3
        have hbo2 : Box ((wr.setCell ⟨g, 0, none⟩ (.int .i64 ((xs[k]?.getD 0 + ys[k]?.getD 0 + c) / 10000))).setCell ⟨w.heap.size, k, none⟩ (.int .i64 ((xs[k]?.getD 0 + ys[k]?.getD 0 + c) % 10000))) g 3 #[.int .i64 ((xs[k]?.getD 0 + ys[k]?.getD 0 + c) / 10000)] := (hbo.set 0 _).far hgc _
        have hbl2 : Below w.heap.size w ((wr.setCell ⟨g, 0, none⟩ (.int .i64 ((xs[k]?.getD 0 + ys[k]?.getD 0 + c) / 10000))).setCell ⟨w.heap.size, k, none⟩ (.int .i64 ((xs[k]?.getD 0 + ys[k]?.getD 0 + c) % 10000))) := (hbl.setCell (by show w.heap.size ≤ g; omega) _).setCell (Nat.le_refl _) _
        have hkl2 : Hid ((out ++ [(xs[k]?.getD 0 + ys[k]?.getD 0 + c) % 10000]).length = k + 1) := by have := hkl.out; simp [Hid]; omega
        replace hown3 := Lib.hid hown3
        clear hval hown hown2 hp hbl hc2 hbo
        go_wp2_with fail
        refine (la1.out).mono ?_
        rintro e w4 ⟨rfl, rfl⟩
        go_wp2_with fail
        refine (la2.out).mono ?_
        rintro e w5 ⟨rfl, rfl⟩
        go_wp2_with fail
        refine (hca.out).mono ?_
        rintro e w6 ⟨rfl, rfl⟩
        go_wp2_with fail
        go_roundw
        case rel => exact ⟨k + 1, (xs[k]?.getD 0 + ys[k]?.getD 0 + c) / 10000, out ++ [(xs[k]?.getD 0 + ys[k]?.getD 0 + c) % 10000], by omega, by go_num, hkl2, hown3.out, hbo2, hcc.1, hcc.2.1, hcc.2.2, hst, hbl2⟩
        case measure => simp [intOf]; omega
      · have hkL : k = L := by omega
        have hc2' := hc2 (by omega)
        have hfin : Hid (val out = val xs + 1 * val ys ∧ Rng 0 9999 out) := by
          obtain ⟨v1, v2⟩ := hval.out
          rw [List.drop_eq_nil_of_le (by rw [hlx.out]; omega), List.drop_eq_nil_of_le (by rw [hly.out]; omega), val_nil] at v1
          simp at v1
          have h3 := hT'.out
          have h4 := comb_end v1 v2 (by simpa using h3)
          have h5 : c = 0 := by omega
          subst h5
          exact ⟨by simpa [val] using v1, v2⟩
        have hol : Hid (out.length = L) := by rw [← hkL]; exact hkl.out
        have hown4 : Hid (Own wr w.heap.size (.slice (some ⟨w.heap.size, 0, none⟩) out.length L) out) := by
          show World.ownsRow _ _ _ _ _ _ _
          rw [hol.out, ← part_all hol.out]
          exact hown
        clear hval hown hkL hbo hc2 hc2'
        go_wp2
        go_ret
        exact ⟨_, L, out, by rw [hol.out]; rfl, hown4.out, hfin.out.2, by have := hfin.out.1; simpa using this, by rw [hol.out]; omega, hbl⟩
  · have hmk : (n : Int) + 1 = (L : Int) := by omega
    replace hmk := Lib.hid hmk
    go_enter Try.func59, Try.ntmps59
    go_wp2_with (at_make; refine wpList_make_full _ rfl _ _ 22 rfl w.heap.size 3 i0 (.int .i64 0) 1 Try.underlying22 hi hz0 hz1 .i64 .i64 _ _ L rfl rfl ?cL ?cC ?c2 ?c3 (Nat.le_refl _) ?_)
    case cL => exact hmk.out
    case cC => exact hmk.out
    case c2 => rw [hz2]; omega
    case c3 => unfold maxLen; omega
    intro w1 hown1 hg1
    have h0 : w1.ownsRow w.heap.size 3 1 (.slice (some ⟨w.heap.size, 0, none⟩) L L) L (part [] L) := by first | (rw [part_nil]; exact hown1) | (rw [part_nil2]; exact hown1)
    have hb1 : Below w.heap.size w w1 := (Below.refl _ _).grown hg1 (Nat.le_refl _) (fun _ h => by cases h)
    have hlt1 : w.heap.size < w1.heap.size := (World.ownsRow.lt hown1 _ rfl).2
    clear hown1 hg1 hi hz0 hz1 hz2
    go_wp2_with fail
    refine (newCarry_any w1).mono ?_
    rintro e w2 ⟨rfl, rfl⟩
    have hbx := Box.new w1 3 #[.int .i64 0]
    have h2 := h0.alloc (.cells #[.int .i64 0] 3)
    have hb2 := Below.step hb1 (below_alloc1 w1 (.cells #[.int .i64 0] 3))
    obtain ⟨g, hg⟩ : ∃ g, g = w1.heap.size := ⟨_, rfl⟩
    rw [← hg] at hbx hlt1 ⊢
    generalize w1.alloc (.cells #[.int .i64 0] 3) = w3 at *
    clear hg h0 hb1
    have hgc : g ≠ w.heap.size := by omega
    go_wp2_with fail
    go_loopw [20] (fun i wr => ∃ (k : Nat) (c : Int) (out : List Int), k ≤ L ∧ i = .int .i64 k ∧ Hid (out.length = k) ∧ wr.ownsRow w.heap.size 3 1 (.slice (some ⟨w.heap.size, 0, none⟩) L L) L (part out L) ∧ Box wr g 3 #[.int .i64 c] ∧ -1 ≤ c ∧ c ≤ 1 ∧ (N < k → c ≤ 0) ∧ Hid (valT out (c + val (xs.drop k) + (-1) * val (ys.drop k)) = val xs + (-1) * val ys ∧ Rng 0 9999 out) ∧ Below w.heap.size w wr) (fun i _ => L - (intOf i).toNat)
    case atStart => exact ⟨0, 0, [], by omega, rfl, rfl, h2, hbx, by omega, by omega, fun h => by omega, ⟨by simp [valT], Rng.nil _ _⟩, hb2⟩
    case round =>
      obtain ⟨k, c, out, hk, rfl, hkl, hown, hbo, hc0, hc1, hc2, hval, hbl⟩ := hrel
      clear h2 hbx hb2
      by_cases hlt : k < L
      · have hx9 := hx.at0 k
        have hy9 := hy.at0 k
        obtain ⟨hx1, hx2⟩ := hx9
        obtain ⟨hy1, hy2⟩ := hy9
        have la1 := Lib.hid (limbAt_any A n ca w.heap.size xs k wr (by omega) (ha.below hbl))
        have la2 := Lib.hid (limbAt_any B n cb w.heap.size ys k wr (by omega) (hb.below hbl))
        have hca := Lib.hid (carry_any g (xs[k]?.getD 0 + -ys[k]?.getD 0) c wr hbo (by omega) (by omega) (by omega) (by omega))
        have hst : Hid (valT (out ++ [(xs[k]?.getD 0 + -ys[k]?.getD 0 + c) % 10000]) ((xs[k]?.getD 0 + -ys[k]?.getD 0 + c) / 10000 + val (xs.drop (k + 1)) + (-1) * val (ys.drop (k + 1))) = val xs + (-1) * val ys ∧ Rng 0 9999 (out ++ [(xs[k]?.getD 0 + -ys[k]?.getD 0 + c) % 10000])) := ⟨comb_step hval.out.1 (by omega), hval.out.2.snoc (by omega)⟩
        have hcc : -1 ≤ (xs[k]?.getD 0 + -ys[k]?.getD 0 + c) / 10000 ∧ (xs[k]?.getD 0 + -ys[k]?.getD 0 + c) / 10000 ≤ 1 ∧ (N < k + 1 → (xs[k]?.getD 0 + -ys[k]?.getD 0 + c) / 10000 ≤ 0) := by
          refine ⟨by omega, by omega, fun h => ?_⟩
          have z1 : xs[k]?.getD 0 ≤ 0 := by rw [List.getElem?_eq_none (by rw [hlx.out]; omega)]; simp
          have z2 : ys[k]?.getD 0 ≤ 0 := by rw [List.getElem?_eq_none (by rw [hly.out]; omega)]; simp
          omega
        have hown2 := ownsRow_setCell_other hown (a := ⟨g, 0, none⟩) (by simp [Value.ownBlock]; omega) (.int .i64 ((xs[k]?.getD 0 + -ys[k]?.getD 0 + c) / 10000))
        have hold : (wr.setCell ⟨g, 0, none⟩ (.int .i64 ((xs[k]?.getD 0 + -ys[k]?.getD 0 + c) / 10000))).cell? ⟨w.heap.size, k, none⟩ = some (.int .i64 0) := by
          rw [hown2.cellAt k (by omega), ← hkl.out]
          exact part_at (by rw [hkl.out]; omega)
        have hfr : (wr.setCell ⟨g, 0, none⟩ (.int .i64 ((xs[k]?.getD 0 + -ys[k]?.getD 0 + c) / 10000))).frozen? ⟨w.heap.size, k, none⟩ = false := hown2.frozenAt k
        have hown3 := (hown2.stored k (.int .i64 ((xs[k]?.getD 0 + -ys[k]?.getD 0 + c) % 10000))).1
        have hp : (part out L).set k (.int .i64 ((xs[k]?.getD 0 + -ys[k]?.getD 0 + c) % 10000)) = part (out ++ [(xs[k]?.getD 0 + -ys[k]?.getD 0 + c) % 10000]) L := by
          rw [← hkl.out]
          exact part_set _ (by rw [hkl.out]; omega)
        rw [hp] at hown3
        have hbo2 : Box ((wr.setCell ⟨g, 0, none⟩ (.int .i64 ((xs[k]?.getD 0 + -ys[k]?.getD 0 + c) / 10000))).setCell ⟨w.heap.size, k, none⟩ (.int .i64 ((xs[k]?.getD 0 + -ys[k]?.getD 0 + c) % 10000))) g 3 #[.int .i64 ((xs[k]?.getD 0 + -ys[k]?.getD 0 + c) / 10000)] := (hbo.set 0 _).far hgc _
        have hbl2 : Below w.heap.size w ((wr.setCell ⟨g, 0, none⟩ (.int .i64 ((xs[k]?.getD 0 + -ys[k]?.getD 0 + c) / 10000))).setCell ⟨w.heap.size, k, none⟩ (.int .i64 ((xs[k]?.getD 0 + -ys[k]?.getD 0 + c) % 10000))) := (hbl.setCell (by show w.heap.size ≤ g; omega) _).setCell (Nat.le_refl _) _
        have hkl2 : Hid ((out ++ [(xs[k]?.getD 0 + -ys[k]?.getD 0 + c) % 10000]).length = k + 1) := by have := hkl.out; simp [Hid]; omega
        replace hown3 := Lib.hid hown3
        clear hval hown hown2 hp hbl hc2 hbo
        go_wp2_with fail
        refine (la1.out).mono ?_
        rintro e w4 ⟨rfl, rfl⟩
        go_wp2_with fail
        refine (la2.out).mono ?_
        rintro e w5 ⟨rfl, rfl⟩
        go_wp2_with fail
        refine (hca.out).mono ?_
        rintro e w6 ⟨rfl, rfl⟩
        go_wp2_with fail
        go_roundw
        case rel => exact ⟨k + 1, (xs[k]?.getD 0 + -ys[k]?.getD 0 + c) / 10000, out ++ [(xs[k]?.getD 0 + -ys[k]?.getD 0 + c) % 10000], by omega, by go_num, hkl2, hown3.out, hbo2, hcc.1, hcc.2.1, hcc.2.2, hst, hbl2⟩
        case measure => simp [intOf]; omega
      · have hkL : k = L := by omega
        have hc2' := hc2 (by omega)
        have hfin : Hid (val out = val xs + (-1) * val ys ∧ Rng 0 9999 out) := by
          obtain ⟨v1, v2⟩ := hval.out
          rw [List.drop_eq_nil_of_le (by rw [hlx.out]; omega), List.drop_eq_nil_of_le (by rw [hly.out]; omega), val_nil] at v1
          simp at v1
          have h3 := hT'.out
          have h4 := comb_end v1 v2 (by simpa using h3)
          have h5 : c = 0 := by omega
          subst h5
          exact ⟨by simpa [val] using v1, v2⟩
        have hol : Hid (out.length = L) := by rw [← hkL]; exact hkl.out
        have hown4 : Hid (Own wr w.heap.size (.slice (some ⟨w.heap.size, 0, none⟩) out.length L) out) := by
          show World.ownsRow _ _ _ _ _ _ _
          rw [hol.out, ← part_all hol.out]
          exact hown
        clear hval hown hkL hbo hc2 hc2'
        go_wp2
        go_ret
        exact ⟨_, L, out, by rw [hol.out]; rfl, hown4.out, hfin.out.2, by have := hfin.out.1; simpa using this, by rw [hol.out]; omega, hbl⟩
  · have hmk : (m : Int) + 1 = (L : Int) := by omega
    replace hmk := Lib.hid hmk
    go_enter Try.func59, Try.ntmps59
    go_wp2_with (at_make; refine wpList_make_full _ rfl _ _ 22 rfl w.heap.size 3 i0 (.int .i64 0) 1 Try.underlying22 hi hz0 hz1 .i64 .i64 _ _ L rfl rfl ?cL ?cC ?c2 ?c3 (Nat.le_refl _) ?_)
    case cL => exact hmk.out
    case cC => exact hmk.out
    case c2 => rw [hz2]; omega
    case c3 => unfold maxLen; omega
    intro w1 hown1 hg1
    have h0 : w1.ownsRow w.heap.size 3 1 (.slice (some ⟨w.heap.size, 0, none⟩) L L) L (part [] L) := by first | (rw [part_nil]; exact hown1) | (rw [part_nil2]; exact hown1)
    have hb1 : Below w.heap.size w w1 := (Below.refl _ _).grown hg1 (Nat.le_refl _) (fun _ h => by cases h)
    have hlt1 : w.heap.size < w1.heap.size := (World.ownsRow.lt hown1 _ rfl).2
    clear hown1 hg1 hi hz0 hz1 hz2
    go_wp2_with fail
    refine (newCarry_any w1).mono ?_
    rintro e w2 ⟨rfl, rfl⟩
    have hbx := Box.new w1 3 #[.int .i64 0]
    have h2 := h0.alloc (.cells #[.int .i64 0] 3)
    have hb2 := Below.step hb1 (below_alloc1 w1 (.cells #[.int .i64 0] 3))
    obtain ⟨g, hg⟩ : ∃ g, g = w1.heap.size := ⟨_, rfl⟩
    rw [← hg] at hbx hlt1 ⊢
    generalize w1.alloc (.cells #[.int .i64 0] 3) = w3 at *
    clear hg h0 hb1
    have hgc : g ≠ w.heap.size := by omega
    go_wp2_with fail
    go_loopw [20] (fun i wr => ∃ (k : Nat) (c : Int) (out : List Int), k ≤ L ∧ i = .int .i64 k ∧ Hid (out.length = k) ∧ wr.ownsRow w.heap.size 3 1 (.slice (some ⟨w.heap.size, 0, none⟩) L L) L (part out L) ∧ Box wr g 3 #[.int .i64 c] ∧ -1 ≤ c ∧ c ≤ 1 ∧ (N < k → c ≤ 0) ∧ Hid (valT out (c + val (xs.drop k) + 1 * val (ys.drop k)) = val xs + 1 * val ys ∧ Rng 0 9999 out) ∧ Below w.heap.size w wr) (fun i _ => L - (intOf i).toNat)
    case atStart => exact ⟨0, 0, [], by omega, rfl, rfl, h2, hbx, by omega, by omega, fun h => by omega, ⟨by simp [valT], Rng.nil _ _⟩, hb2⟩
    case round =>
      obtain ⟨k, c, out, hk, rfl, hkl, hown, hbo, hc0, hc1, hc2, hval, hbl⟩ := hrel
      clear h2 hbx hb2
      by_cases hlt : k < L
      · have hx9 := hx.at0 k
        have hy9 := hy.at0 k
        obtain ⟨hx1, hx2⟩ := hx9
        obtain ⟨hy1, hy2⟩ := hy9
        have la1 := Lib.hid (limbAt_any A n ca w.heap.size xs k wr (by omega) (ha.below hbl))
        have la2 := Lib.hid (limbAt_any B m cb w.heap.size ys k wr (by omega) (hb.below hbl))
        have hca := Lib.hid (carry_any g (xs[k]?.getD 0 + ys[k]?.getD 0) c wr hbo (by omega) (by omega) (by omega) (by omega))
        have hst : Hid (valT (out ++ [(xs[k]?.getD 0 + ys[k]?.getD 0 + c) % 10000]) ((xs[k]?.getD 0 + ys[k]?.getD 0 + c) / 10000 + val (xs.drop (k + 1)) + 1 * val (ys.drop (k + 1))) = val xs + 1 * val ys ∧ Rng 0 9999 (out ++ [(xs[k]?.getD 0 + ys[k]?.getD 0 + c) % 10000])) := ⟨comb_step hval.out.1 (by omega), hval.out.2.snoc (by omega)⟩
        have hcc : -1 ≤ (xs[k]?.getD 0 + ys[k]?.getD 0 + c) / 10000 ∧ (xs[k]?.getD 0 + ys[k]?.getD 0 + c) / 10000 ≤ 1 ∧ (N < k + 1 → (xs[k]?.getD 0 + ys[k]?.getD 0 + c) / 10000 ≤ 0) := by
          refine ⟨by omega, by omega, fun h => ?_⟩
          have z1 : xs[k]?.getD 0 ≤ 0 := by rw [List.getElem?_eq_none (by rw [hlx.out]; omega)]; simp
          have z2 : ys[k]?.getD 0 ≤ 0 := by rw [List.getElem?_eq_none (by rw [hly.out]; omega)]; simp
          omega
        have hown2 := ownsRow_setCell_other hown (a := ⟨g, 0, none⟩) (by simp [Value.ownBlock]; omega) (.int .i64 ((xs[k]?.getD 0 + ys[k]?.getD 0 + c) / 10000))
        have hold : (wr.setCell ⟨g, 0, none⟩ (.int .i64 ((xs[k]?.getD 0 + ys[k]?.getD 0 + c) / 10000))).cell? ⟨w.heap.size, k, none⟩ = some (.int .i64 0) := by
          rw [hown2.cellAt k (by omega), ← hkl.out]
          exact part_at (by rw [hkl.out]; omega)
        have hfr : (wr.setCell ⟨g, 0, none⟩ (.int .i64 ((xs[k]?.getD 0 + ys[k]?.getD 0 + c) / 10000))).frozen? ⟨w.heap.size, k, none⟩ = false := hown2.frozenAt k
        have hown3 := (hown2.stored k (.int .i64 ((xs[k]?.getD 0 + ys[k]?.getD 0 + c) % 10000))).1
        have hp : (part out L).set k (.int .i64 ((xs[k]?.getD 0 + ys[k]?.getD 0 + c) % 10000)) = part (out ++ [(xs[k]?.getD 0 + ys[k]?.getD 0 + c) % 10000]) L := by
          rw [← hkl.out]
          exact part_set _ (by rw [hkl.out]; omega)
        rw [hp] at hown3
        have hbo2 : Box ((wr.setCell ⟨g, 0, none⟩ (.int .i64 ((xs[k]?.getD 0 + ys[k]?.getD 0 + c) / 10000))).setCell ⟨w.heap.size, k, none⟩ (.int .i64 ((xs[k]?.getD 0 + ys[k]?.getD 0 + c) % 10000))) g 3 #[.int .i64 ((xs[k]?.getD 0 + ys[k]?.getD 0 + c) / 10000)] := (hbo.set 0 _).far hgc _
        have hbl2 : Below w.heap.size w ((wr.setCell ⟨g, 0, none⟩ (.int .i64 ((xs[k]?.getD 0 + ys[k]?.getD 0 + c) / 10000))).setCell ⟨w.heap.size, k, none⟩ (.int .i64 ((xs[k]?.getD 0 + ys[k]?.getD 0 + c) % 10000))) := (hbl.setCell (by show w.heap.size ≤ g; omega) _).setCell (Nat.le_refl _) _
        have hkl2 : Hid ((out ++ [(xs[k]?.getD 0 + ys[k]?.getD 0 + c) % 10000]).length = k + 1) := by have := hkl.out; simp [Hid]; omega
        replace hown3 := Lib.hid hown3
        clear hval hown hown2 hp hbl hc2 hbo
        go_wp2_with fail
        refine (la1.out).mono ?_
        rintro e w4 ⟨rfl, rfl⟩
        go_wp2_with fail
        refine (la2.out).mono ?_
        rintro e w5 ⟨rfl, rfl⟩
        go_wp2_with fail
        refine (hca.out).mono ?_
        rintro e w6 ⟨rfl, rfl⟩
        go_wp2_with fail
        go_roundw
        case rel => exact ⟨k + 1, (xs[k]?.getD 0 + ys[k]?.getD 0 + c) / 10000, out ++ [(xs[k]?.getD 0 + ys[k]?.getD 0 + c) % 10000], by omega, by go_num, hkl2, hown3.out, hbo2, hcc.1, hcc.2.1, hcc.2.2, hst, hbl2⟩
        case measure => simp [intOf]; omega
      · have hkL : k = L := by omega
        have hc2' := hc2 (by omega)
        have hfin : Hid (val out = val xs + 1 * val ys ∧ Rng 0 9999 out) := by
          obtain ⟨v1, v2⟩ := hval.out
          rw [List.drop_eq_nil_of_le (by rw [hlx.out]; omega), List.drop_eq_nil_of_le (by rw [hly.out]; omega), val_nil] at v1
          simp at v1
          have h3 := hT'.out
          have h4 := comb_end v1 v2 (by simpa using h3)
          have h5 : c = 0 := by omega
          subst h5
          exact ⟨by simpa [val] using v1, v2⟩
        have hol : Hid (out.length = L) := by rw [← hkL]; exact hkl.out
        have hown4 : Hid (Own wr w.heap.size (.slice (some ⟨w.heap.size, 0, none⟩) out.length L) out) := by
          show World.ownsRow _ _ _ _ _ _ _
          rw [hol.out, ← part_all hol.out]
          exact hown
        clear hval hown hkL hbo hc2 hc2'
        go_wp2
        go_ret
        exact ⟨_, L, out, by rw [hol.out]; rfl, hown4.out, hfin.out.2, by have := hfin.out.1; simpa using this, by rw [hol.out]; omega, hbl⟩
  · have hmk : (m : Int) + 1 = (L : Int) := by omega
    replace hmk := Lib.hid hmk
    go_enter Try.func59, Try.ntmps59
    go_wp2_with (at_make; refine wpList_make_full _ rfl _ _ 22 rfl w.heap.size 3 i0 (.int .i64 0) 1 Try.underlying22 hi hz0 hz1 .i64 .i64 _ _ L rfl rfl ?cL ?cC ?c2 ?c3 (Nat.le_refl _) ?_)
    case cL => exact hmk.out
    case cC => exact hmk.out
    case c2 => rw [hz2]; omega
    case c3 => unfold maxLen; omega
    intro w1 hown1 hg1
    have h0 : w1.ownsRow w.heap.size 3 1 (.slice (some ⟨w.heap.size, 0, none⟩) L L) L (part [] L) := by first | (rw [part_nil]; exact hown1) | (rw [part_nil2]; exact hown1)
    have hb1 : Below w.heap.size w w1 := (Below.refl _ _).grown hg1 (Nat.le_refl _) (fun _ h => by cases h)
    have hlt1 : w.heap.size < w1.heap.size := (World.ownsRow.lt hown1 _ rfl).2
    clear hown1 hg1 hi hz0 hz1 hz2
    go_wp2_with fail
    refine (newCarry_any w1).mono ?_
    rintro e w2 ⟨rfl, rfl⟩
    have hbx := Box.new w1 3 #[.int .i64 0]
    have h2 := h0.alloc (.cells #[.int .i64 0] 3)
    have hb2 := Below.step hb1 (below_alloc1 w1 (.cells #[.int .i64 0] 3))
    obtain ⟨g, hg⟩ : ∃ g, g = w1.heap.size := ⟨_, rfl⟩
    rw [← hg] at hbx hlt1 ⊢
    generalize w1.alloc (.cells #[.int .i64 0] 3) = w3 at *
    clear hg h0 hb1
    have hgc : g ≠ w.heap.size := by omega
    go_wp2_with fail
    go_loopw [20] (fun i wr => ∃ (k : Nat) (c : Int) (out : List Int), k ≤ L ∧ i = .int .i64 k ∧ Hid (out.length = k) ∧ wr.ownsRow w.heap.size 3 1 (.slice (some ⟨w.heap.size, 0, none⟩) L L) L (part out L) ∧ Box wr g 3 #[.int .i64 c] ∧ -1 ≤ c ∧ c ≤ 1 ∧ (N < k → c ≤ 0) ∧ Hid (valT out (c + val (xs.drop k) + (-1) * val (ys.drop k)) = val xs + (-1) * val ys ∧ Rng 0 9999 out) ∧ Below w.heap.size w wr) (fun i _ => L - (intOf i).toNat)
    case atStart => exact ⟨0, 0, [], by omega, rfl, rfl, h2, hbx, by omega, by omega, fun h => by omega, ⟨by simp [valT], Rng.nil _ _⟩, hb2⟩
    case round =>
      obtain ⟨k, c, out, hk, rfl, hkl, hown, hbo, hc0, hc1, hc2, hval, hbl⟩ := hrel
      clear h2 hbx hb2
      by_cases hlt : k < L
      · have hx9 := hx.at0 k
        have hy9 := hy.at0 k
        obtain ⟨hx1, hx2⟩ := hx9
        obtain ⟨hy1, hy2⟩ := hy9
        have la1 := Lib.hid (limbAt_any A n ca w.heap.size xs k wr (by omega) (ha.below hbl))
        have la2 := Lib.hid (limbAt_any B m cb w.heap.size ys k wr (by omega) (hb.below hbl))
        have hca := Lib.hid (carry_any g (xs[k]?.getD 0 + -ys[k]?.getD 0) c wr hbo (by omega) (by omega) (by omega) (by omega))
        have hst : Hid (valT (out ++ [(xs[k]?.getD 0 + -ys[k]?.getD 0 + c) % 10000]) ((xs[k]?.getD 0 + -ys[k]?.getD 0 + c) / 10000 + val (xs.drop (k + 1)) + (-1) * val (ys.drop (k + 1))) = val xs + (-1) * val ys ∧ Rng 0 9999 (out ++ [(xs[k]?.getD 0 + -ys[k]?.getD 0 + c) % 10000])) := ⟨comb_step hval.out.1 (by omega), hval.out.2.snoc (by omega)⟩
        have hcc : -1 ≤ (xs[k]?.getD 0 + -ys[k]?.getD 0 + c) / 10000 ∧ (xs[k]?.getD 0 + -ys[k]?.getD 0 + c) / 10000 ≤ 1 ∧ (N < k + 1 → (xs[k]?.getD 0 + -ys[k]?.getD 0 + c) / 10000 ≤ 0) := by
          refine ⟨by omega, by omega, fun h => ?_⟩
          have z1 : xs[k]?.getD 0 ≤ 0 := by rw [List.getElem?_eq_none (by rw [hlx.out]; omega)]; simp
          have z2 : ys[k]?.getD 0 ≤ 0 := by rw [List.getElem?_eq_none (by rw [hly.out]; omega)]; simp
          omega
        have hown2 := ownsRow_setCell_other hown (a := ⟨g, 0, none⟩) (by simp [Value.ownBlock]; omega) (.int .i64 ((xs[k]?.getD 0 + -ys[k]?.getD 0 + c) / 10000))
        have hold : (wr.setCell ⟨g, 0, none⟩ (.int .i64 ((xs[k]?.getD 0 + -ys[k]?.getD 0 + c) / 10000))).cell? ⟨w.heap.size, k, none⟩ = some (.int .i64 0) := by
          rw [hown2.cellAt k (by omega), ← hkl.out]
          exact part_at (by rw [hkl.out]; omega)
        have hfr : (wr.setCell ⟨g, 0, none⟩ (.int .i64 ((xs[k]?.getD 0 + -ys[k]?.getD 0 + c) / 10000))).frozen? ⟨w.heap.size, k, none⟩ = false := hown2.frozenAt k
        have hown3 := (hown2.stored k (.int .i64 ((xs[k]?.getD 0 + -ys[k]?.getD 0 + c) % 10000))).1
        have hp : (part out L).set k (.int .i64 ((xs[k]?.getD 0 + -ys[k]?.getD 0 + c) % 10000)) = part (out ++ [(xs[k]?.getD 0 + -ys[k]?.getD 0 + c) % 10000]) L := by
          rw [← hkl.out]
          exact part_set _ (by rw [hkl.out]; omega)
        rw [hp] at hown3
        have hbo2 : Box ((wr.setCell ⟨g, 0, none⟩ (.int .i64 ((xs[k]?.getD 0 + -ys[k]?.getD 0 + c) / 10000))).setCell ⟨w.heap.size, k, none⟩ (.int .i64 ((xs[k]?.getD 0 + -ys[k]?.getD 0 + c) % 10000))) g 3 #[.int .i64 ((xs[k]?.getD 0 + -ys[k]?.getD 0 + c) / 10000)] := (hbo.set 0 _).far hgc _
        have hbl2 : Below w.heap.size w ((wr.setCell ⟨g, 0, none⟩ (.int .i64 ((xs[k]?.getD 0 + -ys[k]?.getD 0 + c) / 10000))).setCell ⟨w.heap.size, k, none⟩ (.int .i64 ((xs[k]?.getD 0 + -ys[k]?.getD 0 + c) % 10000))) := (hbl.setCell (by show w.heap.size ≤ g; omega) _).setCell (Nat.le_refl _) _
        have hkl2 : Hid ((out ++ [(xs[k]?.getD 0 + -ys[k]?.getD 0 + c) % 10000]).length = k + 1) := by have := hkl.out; simp [Hid]; omega
        replace hown3 := Lib.hid hown3
        clear hval hown hown2 hp hbl hc2 hbo
        go_wp2_with fail
        refine (la1.out).mono ?_
        rintro e w4 ⟨rfl, rfl⟩
        go_wp2_with fail
        refine (la2.out).mono ?_
        rintro e w5 ⟨rfl, rfl⟩
        go_wp2_with fail
        refine (hca.out).mono ?_
        rintro e w6 ⟨rfl, rfl⟩
        go_wp2_with fail
        go_roundw
        case rel => exact ⟨k + 1, (xs[k]?.getD 0 + -ys[k]?.getD 0 + c) / 10000, out ++ [(xs[k]?.getD 0 + -ys[k]?.getD 0 + c) % 10000], by omega, by go_num, hkl2, hown3.out, hbo2, hcc.1, hcc.2.1, hcc.2.2, hst, hbl2⟩
        case measure => simp [intOf]; omega
      · have hkL : k = L := by omega
        have hc2' := hc2 (by omega)
        have hfin : Hid (val out = val xs + (-1) * val ys ∧ Rng 0 9999 out) := by
          obtain ⟨v1, v2⟩ := hval.out
          rw [List.drop_eq_nil_of_le (by rw [hlx.out]; omega), List.drop_eq_nil_of_le (by rw [hly.out]; omega), val_nil] at v1
          simp at v1
          have h3 := hT'.out
          have h4 := comb_end v1 v2 (by simpa using h3)
          have h5 : c = 0 := by omega
          subst h5
          exact ⟨by simpa [val] using v1, v2⟩
        have hol : Hid (out.length = L) := by rw [← hkL]; exact hkl.out
        have hown4 : Hid (Own wr w.heap.size (.slice (some ⟨w.heap.size, 0, none⟩) out.length L) out) := by
          show World.ownsRow _ _ _ _ _ _ _
          rw [hol.out, ← part_all hol.out]
          exact hown
        clear hval hown hkL hbo hc2 hc2'
        go_wp2
        go_ret
        exact ⟨_, L, out, by rw [hol.out]; rfl, hown4.out, hfin.out.2, by have := hfin.out.1; simpa using this, by rw [hol.out]; omega, hbl⟩
end Go.Proofs.Ytlkdelhmjjnnnaa
